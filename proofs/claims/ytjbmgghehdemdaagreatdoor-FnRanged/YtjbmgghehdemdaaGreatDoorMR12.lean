/- Strs -/
import Derived.Test.YtjbmgghehdemdaaGreatDoorMR2
import Derived.Laws.DeepStrings4
import Derived.Laws.Concat
import Derived.Test.YtjbmgghehdemdaaGreatDoorMR7
import Derived.Lib.IndexLaws
import Derived.Lib.Bytealg
import Derived.WalkMore
import Derived.Laws.CopyOwn
import Derived.OwnWalk
namespace Go.Proofs.YtjbmgghehdemdaaGreatDoor
set_option maxRecDepth 100000
set_option maxHeartbeats 16000000
open _root_.Go.Proofs.Tryz
open Go.RowKit
theorem Nj:(prog.info? 9).map (fun i=>(i.zero,i.size,i.bytes))=some (some (.string ⟨#[]⟩),1,16):=by kernel_rfl
def ak (w:World) (B:Nat) (v:Value) (ss:List ByteArray):Prop:=w.ownsRow B 9 1 v ss.length (ss.map Value.string)
theorem ak.snoc {w:World} {base:Nat} {v:Value} {ss:List ByteArray} {x:ByteArray}(h:w.ownsRow base 9 1 v (ss.length+1) (ss.map Value.string++[.string x])):ak w base v (ss++[x]):=by
 unfold ak;simpa using h
theorem ak.form {w:World} {B:Nat} {v:Value} {ss:List ByteArray}(h:ak w B v ss):(v=.slice none 0 0/\ss=[])\/∃ g cap,v=.slice (some ⟨g,0,none⟩) ss.length cap/\ss.length<=cap/\cap<=maxLen:=by
 rcases h.2 with ⟨a,b⟩|⟨g,cap,f,a,b,c,d,e,_⟩
 .exact .inl ⟨a,by simpa using b⟩
 .exact .inr ⟨g,cap,a,d,e⟩
theorem ak.cell {w:World} {B:Nat} {g cap:Nat} {ss:List ByteArray}(h:ak w B (.slice (some ⟨g,0,none⟩) ss.length cap) ss) (j:Nat) (x:ByteArray) (a:ss[j]? = some x) :
  w.cell? ⟨g,j,none⟩=some (.string x):=by
 have b:=(List.getElem?_eq_some_iff.1 a).1;rw[World.ownsRow.cellAt h j (by omega)];simp[a]
theorem ak.below {w w':World} {B:Nat} {v:Value} {ss:List ByteArray}(h:ak w B v ss) (a:Below w.heap.size w w'):ak w' B v ss :=
 World.ownsRow.kept h (row:=none) ⟨a.os,a.tape,a.output,a.size,fun k hk _=>a.block k hk⟩ (by cases h:v.ownBlock <;> simp)
def wst (s:ByteArray):Nat->List ByteArray × ByteArray
 | 0=>([],⟨#[]⟩)
 | k+1 =>
  if k<s.size/\Dec.bt s k≠32 then ((wst s k).1,(wst s k).2++s.extract k (k+1))
  else ((if (wst s k).2.size=0 then (wst s k).1 else (wst s k).1++[(wst s k).2]),⟨#[]⟩)
def rx (s:ByteArray):List ByteArray:=(wst s (s.size+1)).1
theorem L0 (s:ByteArray) (k:Nat):(wst s k).1.length<=k/\(wst s k).2.size<=k:=by
 induction k with
 | zero=>exact⟨Nat.zero_le _,bR⟩
 | succ k ih =>
  unfold wst;split
  .rename_i h
   refine⟨by show (wst s k).1.length<=_;omega,?_⟩;show ((wst s k).2++s.extract k (k+1)).size<=_
   rw[ByteArray.size_append,ByteArray.size_extract];omega
  .refine⟨?_,Nat.zero_le _⟩
   show (if _ then _ else _:List ByteArray).length<=_
   split
   .omega
   .rw[List.length_append];simp;omega
def b27 (w:World) (s:ByteArray) (out word i:Value) (wr:World):Prop :=
 ∃ (k:Nat) (os:List ByteArray) (cur:ByteArray),k<=s.size+1/\i=.int .i64 k/\wst s k=(os,cur)/\word=.string cur/\ak wr w.heap.size out os/\Below w.heap.size w wr
theorem Cf (c:ByteArray):c.toList.isEmpty=decide (c.size=0):=by
 rw[ByteArray.toList_eq];rcases c with ⟨⟨l⟩⟩
 cases l <;> simp[ByteArray.size]
theorem a63 (s:ByteArray) (w:World) (Q:s.size<=1073741824) :
  Calls prog 53 #[.string s] w fun e w'=>∃ v,e=.returned v/\ak w' w.heap.size v (rx s)/\Below w.heap.size w w':=by
 obtain⟨F,E,A,B,C⟩:=info_parts Nj;go_enter func53,ntmps53;go_wp2;go_loopw [3,4,5] (fun out word i wr=>b27 w s out word i wr) (fun _ _ i _=>s.size+1-(intOf i).toNat)
 case atStart=>exact⟨0,[],⟨#[]⟩,Nat.zero_le _,rfl,rfl,rfl,World.ownsRow_nil _ _ _ _,bX⟩
 case round =>
  obtain⟨k,n,d,P,rfl,y,rfl,f,m⟩:=hrel;have q:=L0 s k;rw[y]at q;have L:n.length<=k:=q.1;have M:d.size<=k:=q.2;have o:=hZ y;clear y q;unfold ak at f;by_cases N:k<=s.size
  .by_cases a:k<s.size/\Dec.bt s k≠32
   .obtain⟨a,b⟩:=a
    have g:Hid (Dec.bt s k=(s[k]'a).toNat):=(Dec.bt_get s k a).symm;have D:(((s[k]'a).toNat:Int) != 32)=true:=by rw[g.out]at b;simp;omega
    have l:Hid (wst s (k+1)=(n,d++s.extract k (k+1))):=by
     show _=_
     rw[wst,if_pos ⟨a,b⟩,o.out]
    clear b g o;go_wp2;exact⟨⟨k+1,_,_,by omega,by go_num,l.out,rfl,f,m⟩,by simp[intOf];omega⟩
   .have p:Hid (wst s (k+1)=((if d.size=0 then n else n++[d]),⟨#[]⟩)):=by
     show _=_
     rw[wst,if_neg a,o.out]
    clear o;have hd:k<s.size->Dec.bt s k=32:=fun h=>Decidable.byContradiction fun c=>a ⟨h,c⟩
    clear a;have z:=Cf d;by_cases b:d.size=0
    .rw[decide_eq_true b]at z
     have l:Hid (wst s (k+1)=(n,⟨#[]⟩)):=by show _=_;rw[p.out,if_pos b]
     clear p b;by_cases a:k<s.size
     .have g:=Dec.bt_get s k a
      rw[hd a]at g;have D:(((s[k]'a).toNat:Int) != 32)=false:=by simp;omega
      clear hd g;go_wp2;exact⟨⟨k+1,_,_,by omega,by go_num,l.out,rfl,f,m⟩,by simp[intOf];omega⟩
     .have I:¬ (k:Int)<(s.size:Int):=by omega
      clear hd;go_wp2;exact⟨⟨k+1,_,_,by omega,by go_num,l.out,rfl,f,m⟩,by simp[intOf];omega⟩
    .rw[decide_eq_false b]at z
     have l:Hid (wst s (k+1)=(n++[d],⟨#[]⟩)):=by show _=_;rw[p.out,if_neg b]
     have O:=m.size;clear p b;by_cases a:k<s.size
     .have g:=Dec.bt_get s k a
      rw[hd a]at g;have D:(((s[k]'a).toNat:Int) != 32)=false:=by simp;omega
      clear hd g;go_wp2_with (at_builtin;refine wpList_append_own _ rfl _ _ 23 rfl w.heap.size 9 F (.string ⟨#[]⟩) 1 16 underlying23 E A B C rfl (by decide) _ _ _ rfl (f.alloc _) ⟨_,0,none⟩ 1 1 [.string d] rfl rfl (cell_one_new _ _ _) (fun x hx=>by simp at hx;subst hx;rfl) (by unfold maxLen;omega) (by omega) (by simp;omega) ?_;intro J K u t _)
      have r:=Below.grown (m.alloc (by omega) _) t (by simp;omega) (fun j hj=>(f.lt _ hj).1);exact⟨⟨k+1,_,_,by omega,by go_num,l.out,rfl,ak.snoc u,r⟩,by simp[intOf];omega⟩
     .have I:¬ (k:Int)<(s.size:Int):=by omega
      clear hd;go_wp2_with (at_builtin;refine wpList_append_own _ rfl _ _ 23 rfl w.heap.size 9 F (.string ⟨#[]⟩) 1 16 underlying23 E A B C rfl (by decide) _ _ _ rfl (f.alloc _) ⟨_,0,none⟩ 1 1 [.string d] rfl rfl (cell_one_new _ _ _) (fun x hx=>by simp at hx;subst hx;rfl) (by unfold maxLen;omega) (by omega) (by simp;omega) ?_;intro J K u t _)
      have r:=Below.grown (m.alloc (by omega) _) t (by simp;omega) (fun j hj=>(f.lt _ hj).1);exact⟨⟨k+1,_,_,by omega,by go_num,l.out,rfl,ak.snoc u,r⟩,by simp[intOf];omega⟩
  .have G:k=s.size+1:=by omega
   subst G;have H:Hid (n=rx s):=by show _=_;unfold rx;rw[o.out]
   clear o;go_wp2;go_ret;exact⟨_,rfl,by rw[<- H.out];exact f,m⟩
def wf:List UInt8->List UInt8->List ByteArray
 | [],cur=>if cur=[] then [] else [⟨cur.toArray⟩]
 | b::l,cur=>if b=32 then (if cur=[] then wf l [] else ⟨cur.toArray⟩::wf l []) else wf l (cur++[b])
def dn (l:List UInt8):List UInt8 × List UInt8 :=
 ((l.dropWhile (· == 32)).takeWhile (· != 32),((l.dropWhile (· == 32)).dropWhile (· != 32)).drop 1)
theorem ax2 (a:List UInt8):wf [] a=if a=[] then [] else [⟨a.toArray⟩]:=rfl
theorem E4 (b:UInt8) (l a:List UInt8):wf (b::l) a=if b=32 then (if a=[] then wf l [] else ⟨a.toArray⟩::wf l []) else wf l (a++[b]):=rfl
theorem ax1 (l a:List UInt8) (h:a≠[]):wf l a=⟨(a++l.takeWhile (· != 32)).toArray⟩::wf ((l.dropWhile (· != 32)).drop 1) []:=by
 induction l generalizing a with
 | nil=>simp[wf,h]
 | cons b l ih =>
  rw[E4];by_cases c:b=32
  .simp[c,h]
  .rw[if_neg c,ih (a++[b]) (by simp)]
   simp[c]
theorem Th (l:List UInt8):wf l []=if (dn l).1=[] then [] else ⟨(dn l).1.toArray⟩::wf (dn l).2 []:=by
 induction l with
 | nil=>simp[wf,dn]
 | cons b l ih =>
  rw[E4];by_cases a:b=32
  .have e:dn (b::l)=dn l:=by simp[dn,a]
   rw[if_pos a,if_pos rfl,e];exact ih
  .rw[if_neg a,ax1 l ([]++[b]) (by simp)]
   simp[dn,a]
theorem Hu (l:List UInt8):(dn l).1.length<=l.length/\(dn l).2.length<=l.length:=by
 unfold dn;have a:=(List.dropWhile_sublist (l:=l) (p:=fun x=>x == 32)).length_le;have b:=(List.takeWhile_sublist (l:=l.dropWhile (fun x=>x == 32)) (p:=fun x=>x != 32)).length_le;have c:=(List.dropWhile_sublist (l:=l.dropWhile (fun x=>x == 32)) (p:=fun x=>x != 32)).length_le;simp only[List.length_drop];omega
theorem aj1 (s:ByteArray) (k:Nat) (a:k<s.size):(wst s k).1++wf (s.data.toList.drop k) (wst s k).2.data.toList=(wst s (k+1)).1++wf (s.data.toList.drop (k+1)) (wst s (k+1)).2.data.toList:=by
 have hd:s.data.toList.drop k=s.data.toList[k]'a::s.data.toList.drop (k+1):=List.drop_eq_getElem_cons a;have g:Dec.bt s k=(s.data.toList[k]'a).toNat:=by rw[<- Dec.bt_get s k a];rfl
 rw[hd];generalize hx:s.data.toList[k]'a=b at *;conv=>rhs;unfold wst
 by_cases c:b=32
 .have d:¬ (k<s.size/\Dec.bt s k≠32):=by rw[g,c];simp
  rw[if_neg d];simp only;rw[E4,if_pos c];by_cases z:(wst s k).2.data.toList=[]
  .have f:(wst s k).2.size=0:=by show (wst s k).2.data.size=0;rw[<- Array.length_toList,z];rfl
   rw[if_pos z,if_pos f]
  .have f:¬ (wst s k).2.size=0:=fun e=>z (List.eq_nil_of_length_eq_zero (by rw[Array.length_toList];exact e))
   rw[if_neg z,if_neg f];simp
 .have d:k<s.size/\Dec.bt s k≠32:=⟨a,by
   rw[g];intro e;exact c (UInt8.toNat_inj.1 e)⟩
  rw[if_pos d];simp only;rw[E4,if_neg c];congr 2
  rw[ByteArray.data_append,Array.toList_append,ByteArray.data_extract,Array.toList_extract];congr 1
  rw[List.extract_eq_take_drop,hd];simp
theorem aj0 (s:ByteArray):rx s=wf s.data.toList []:=by
 have h:∀ k,k<=s.size->wf s.data.toList []=(wst s k).1++wf (s.data.toList.drop k) (wst s k).2.data.toList:=by
  intro k;induction k with
  | zero=>intro _;simp[wst]
  | succ k ih=>intro b;rw[ih (by omega),aj1 s k (by omega)]
 rw[h s.size bR];have e:s.data.toList.drop s.size=[]:=List.drop_eq_nil_of_le (by simp);rw[e];unfold rx;conv=>lhs;unfold wst
 rw[if_neg (by omega)];rw[ax2];by_cases z:(wst s s.size).2.data.toList=[]
 .have a:(wst s s.size).2.size=0:=by show (wst s s.size).2.data.size=0;rw[<- Array.length_toList,z];rfl
  rw[if_pos z,if_pos a];simp
 .have a:¬ (wst s s.size).2.size=0:=fun e=>z (List.eq_nil_of_length_eq_zero (by rw[Array.length_toList];exact e))
  rw[if_neg z,if_neg a]
theorem Mn:∀ (t:List UInt8),Lib.indexByte t 32=-1->t.takeWhile (· != 32)=t/\(t.dropWhile (· != 32)).drop 1=[]
 | [],_=>by simp
 | b::t,h=>by
  have n:=Lib.indexByte_none h;have a:b≠32:=fun e=>n 0 (by simp[e])
  unfold Lib.indexByte at h;have d:(b == 32)=false:=by simpa using a
  rw[d]at h;have i:Lib.indexByte t 32=-1:=by
   have g:=Lib.indexByte_ge t 32;by_cases c:Lib.indexByte t 32=-1
   .exact c
   .exfalso
    have f:(Lib.indexByte t 32 == -1)=false:=by simpa using c
    rw[f]at h;simp at h;omega
  obtain⟨j,k⟩:=Mn t i;refine⟨?_,?_⟩
  .rw[List.takeWhile_cons];simp[a,j]
  .rw[List.dropWhile_cons];simp[a];simpa using k
theorem So:∀ (t:List UInt8) (i:Nat),Lib.indexByte t 32=(i:Int)->i<t.length/\t.takeWhile (· != 32)=t.take i/\(t.dropWhile (· != 32)).drop 1=t.drop (i+1)
 | [],i,h=>by simp[Lib.indexByte]at h
 | b::t,i,h=>by
  unfold Lib.indexByte at h;by_cases a:b=32
  .have d:(b == 32)=true:=by simpa using a
   rw[d]at h;have:i=0:=by simpa using h.symm
   subst this;simp[a]
  .have d:(b == 32)=false:=by simpa using a
   rw[d]at h;have g:=Lib.indexByte_ge t 32;by_cases c:Lib.indexByte t 32=-1
   .rw[c]at h;simp at h
   .have e:(Lib.indexByte t 32 == -1)=false:=by simpa using c
    rw[e]at h;simp at h;obtain⟨j,rfl⟩:∃ j,i=j+1:=⟨i-1,by omega⟩
    obtain⟨l,f,k⟩:=So t j (by omega);refine⟨by simp;omega,?_,?_⟩
    .rw[List.takeWhile_cons];simp[a,f]
    .rw[List.dropWhile_cons];simp[a];simpa using k
structure Rw where
 key:ByteArray
 text:ByteArray
 val:ByteArray
def rwC (x:Rw):List Value:=[.string x.key,.string x.text,.string x.val]
def rwV (x:Rw):Value:=.agg #[.string x.key,.string x.text,.string x.val]
def go (l:List Rw):List Value:=l.flatMap rwC
def rwZ:Rw:=⟨⟨#[]⟩,⟨#[]⟩,⟨#[]⟩⟩
instance : Inhabited Rw := ⟨rwZ⟩
theorem yk (l:List Rw):(go l).length=l.length*3:=by
 induction l with
 | nil=>rfl
 | cons e es ih=>show (rwC e++go es).length=_;rw[List.length_append,ih,List.length_cons];show 3+_=_;omega
theorem xv (a b:List Rw):go (a++b)=go a++go b:=by simp[go]
theorem Ox (es:List Rw) (k i:Nat) (e:Rw) (h:es[k]? = some e) (hi:i<3):(go es)[k*3+i]? = (rwC e)[i]?:=by
 induction es generalizing k with
 | nil=>simp at h
 | cons x es ih =>
  show (rwC x++go es)[k*3+i]? = _
  cases k with
  | zero =>
   simp at h;subst h;rw[Nat.zero_mul,Nat.zero_add,List.getElem?_append_left (by show i<3;exact hi)]
  | succ k =>
   have b:es[k]? = some e:=by simpa using h
   rw[List.getElem?_append_right (by show 3<=_;omega)];have a:(k+1)*3+i-(rwC x).length=k*3+i:=by show (k+1)*3+i-3=_;omega
   rw[a];exact ih k b
def Rws (w:World) (B:Nat) (v:Value) (l:List Rw):Prop:=w.ownsRow B 37 3 v l.length (go l)
theorem Rws.form {w:World} {B:Nat} {v:Value} {es:List Rw}(h:Rws w B v es):(v=.slice none 0 0/\es=[])\/∃ g cap,v=.slice (some ⟨g,0,none⟩) es.length cap/\es.length<=cap/\cap<=maxLen:=by
 rcases h.2 with ⟨a,b⟩|⟨g,cap,f,a,b,c,d,e,_⟩
 .exact .inl ⟨a,List.eq_nil_of_length_eq_zero b⟩
 .exact .inr ⟨g,cap,a,d,e⟩
theorem Rws.cells {w:World} {B g cap:Nat} {es:List Rw}(h:Rws w B (.slice (some ⟨g,0,none⟩) es.length cap) es) (k:Nat) (e:Rw) (b:es[k]? = some e) :
  w.cell? ⟨g,k*3,none⟩=some (.string e.key)/\w.cell? ⟨g,k*3+1,none⟩=some (.string e.text)/\w.cell? ⟨g,k*3+2,none⟩=some (.string e.val):=by
 have c:=(List.getElem?_eq_some_iff.1 b).1;have a:∀ i,i<3->w.cell? ⟨g,k*3+i,none⟩=(rwC e)[i]?:=fun i hi=>by
  rw[World.ownsRow.cellAt h (k*3+i) (by omega),Ox es k i e b hi]
 exact⟨a 0 (by omega),a 1 (by omega),a 2 (by omega)⟩
theorem Rws.below {w w':World} {B:Nat} {v:Value} {es:List Rw}(h:Rws w B v es) (a:Below w.heap.size w w'):Rws w' B v es :=
 World.ownsRow.kept h (row:=none) ⟨a.os,a.tape,a.output,a.size,fun k hk _=>a.block k hk⟩ (by cases h:v.ownBlock <;> simp)
def dd (w:World) (a:Option Addr) (l:List Rw):Prop :=
 l=[]\/∃ b o,a=some ⟨b,o,none⟩/\∀ (k:Nat) (e:Rw),l[k]? = some e->w.cell? ⟨b,o+k*3,none⟩=some (.string e.key)/\w.cell? ⟨b,o+k*3+1,none⟩=some (.string e.text)/\w.cell? ⟨b,o+k*3+2,none⟩=some (.string e.val)
theorem ag {w:World} {b o:Nat} {v:Value}(h:w.cell? ⟨b,o,none⟩=some v):b<w.heap.size:=by
 apply Classical.byContradiction
 intro a;have:w.heap[b]? = none:=by simp;omega
 simp[World.cell?,this]at h
theorem dd.below {w w':World} {B:Nat} {a:Option Addr} {l:List Rw}(h:dd w a l) (c:Below B w w') (j:w.heap.size<=B):dd w' a l:=by
 rcases h with rfl|⟨b,o,rfl,h⟩
 .exact .inl rfl
 .refine .inr ⟨b,o,rfl,fun k e he=>?_⟩
  obtain⟨f,g,i⟩:=h k e he;have d:=Nat.lt_of_lt_of_le (ag f) j;exact⟨by rw[c.cell d];exact f,by rw[c.cell d];exact g,by rw[c.cell d];exact i⟩
theorem Rws.sl {w:World} {B g cap:Nat} {l:List Rw}(h:Rws w B (.slice (some ⟨g,0,none⟩) l.length cap) l):dd w (some ⟨g,0,none⟩) l :=
 .inr ⟨g,0,rfl,fun k e he=>by simpa using h.cells k e he⟩
theorem dd.drop {w:World} {b o:Nat} {l:List Rw}(h:dd w (some ⟨b,o,none⟩) l) (n:Nat):dd w (some ⟨b,o+n*3,none⟩) (l.drop n):=by
 rcases h with rfl|⟨c,d,a,h⟩
 .exact .inl (by simp)
 .cases a
  refine .inr ⟨b,o+n*3,rfl,fun k e he=>?_⟩;rw[List.getElem?_drop]at he;have:=h (n+k) e he;rw[show o+(n+k)*3=o+n*3+k*3 by omega]at this;exact this
theorem dd.take {w:World} {a:Option Addr} {l:List Rw}(h:dd w a l) (n:Nat):dd w a (l.take n):=by
 rcases h with rfl|⟨b,d,c,h⟩
 .exact .inl (by simp)
 .refine .inr ⟨b,d,c,fun k e he=>h k e ?_⟩
  rw[List.getElem?_take]at he;split at he
  .exact he
  .cases he
theorem aq2 {l:List Rw} {k:Nat} {x:Rw}(h:l[k]? = some x):l.drop k=x::l.drop (k+1):=by
 obtain⟨a,rfl⟩:=List.getElem?_eq_some_iff.1 h;exact List.drop_eq_getElem_cons a
def sz1 (x:Rw):Bool:=decide (x.key.size<=200) && decide (x.text.size<=80) && decide (x.val.size<=80)
def ltK (a b:ByteArray):Bool:=Op.bytesLess a.toList b.toList
def dh (l:List Rw) (i:Nat):Rw:=(l[i]?).getD rwZ
def lq (l:List Rw) (i:Nat):Bool:=sz1 (dh l i) && (i == 0 || ltK (dh l (i-1)).key (dh l i).key)
def dm (l:List Rw):Bool:=decide (l.length<=60) && (List.range l.length).all (lq l)
theorem Hh {l:List Rw}(h:¬ l.length<=60):dm l=false:=by simp[dm,h]
theorem n5 {l:List Rw} {k:Nat}(a:k<l.length) (h:lq l k=false):dm l=false:=by
 unfold dm;have:(List.range l.length).all (lq l)=false:=by
  rw[List.all_eq_false];exact⟨k,by simpa using a,by simp[h]⟩
 rw[this,Bool.and_false]
theorem ue {l:List Rw}(h:l.length<=60) (a:∀ i,i<l.length->lq l i=true):dm l=true:=by
 unfold dm;have:(List.range l.length).all (lq l)=true:=by
  rw[List.all_eq_true];intro i b;exact a i (by simpa using b)
 rw[this];simp[h]
theorem mz {l:List Rw}(h:dm l=true):l.length<=60:=by
 unfold dm at h;simp at h;exact h.1
theorem xj {l:List Rw}(h:dm l=true){i:Nat}(hi:i<l.length):lq l i=true:=by
 unfold dm at h;simp at h;exact h.2 i hi
theorem Ko {l:List Rw} {x:Rw}(a:l[0]? = some x):lq l 0=sz1 x:=by
 simp[lq,dh,a]
theorem Kn {l:List Rw} {j:Nat} {x y:Rw}(a:l[j+1]? = some x) (b:l[j]? = some y):lq l (j+1)=(sz1 x && ltK y.key x.key):=by
 simp[lq,dh,a,b]
theorem wk {l:List Rw} {k:Nat} {x:Rw}(a:l[k]? = some x) (h:sz1 x=false):lq l k=false:=by
 simp[lq,dh,a,h]
theorem Gd {x:Rw}(h0:x.key.size<=200) (h1:x.text.size<=80) (h2:x.val.size<=80):sz1 x=true:=by simp[sz1,h0,h1,h2]
theorem Tf {x:Rw}(h0:¬ x.key.size<=200):sz1 x=false:=by simp[sz1,h0]
theorem Pl {x:Rw}(h0:¬ x.text.size<=80):sz1 x=false:=by simp[sz1,h0]
theorem Tg {x:Rw}(h0:¬ x.val.size<=80):sz1 x=false:=by simp[sz1,h0]
theorem a56 {x:Rw}(h:sz1 x=true):x.key.size<=200/\x.text.size<=80/\x.val.size<=80:=by
 simp[sz1]at h
 exact⟨h.1.1,h.1.2,h.2⟩
theorem N9 {l:List Rw}(h:dm l=true):∀ x ∈ l,x.key.size<=200/\x.text.size<=80/\x.val.size<=80:=by
 intro x b;obtain⟨i,a⟩:=List.getElem?_of_mem b;have:=xj h (List.getElem?_eq_some_iff.1 a).1;unfold lq dh at this;rw[a]at this;simp only[Option.getD_some,Bool.and_eq_true]at this;exact a56 this.1
theorem yh {l:List Rw} {k:Nat}(h:∀ j,j<k->lq l j=true) (a:lq l k=true):∀ j,j<k+1->lq l j=true:=by
 intro j b;by_cases e:j=k
 .rw[e];exact a
 .exact h j (by omega)
def shL:List UInt8->List UInt8->Nat
 | a::x,b::y=>if a=b then shL x y+1 else 0
 | _,_=>0
def shB (a k:ByteArray):Nat:=shL a.data.toList k.data.toList
theorem Tb:∀ (x y:List UInt8),shL x y<=x.length
 | [],y=>by cases y <;> simp[shL]
 | a::x,[]=>by simp[shL]
 | a::x,b::y=>by
  unfold shL;split
  .have:=Tb x y
   simp;omega
  .simp
theorem Tc:∀ (x y:List UInt8),shL x y<=y.length
 | [],y=>by cases y <;> simp[shL]
 | a::x,[]=>by simp[shL]
 | a::x,b::y=>by
  unfold shL;split
  .have:=Tc x y
   simp;omega
  .simp
theorem Dz (a k:ByteArray):shB a k<=a.size:=by
 have:=Tb a.data.toList k.data.toList;rw[Array.length_toList]at this;exact this
theorem E3 (a k:ByteArray):shB a k<=k.size:=by
 have:=Tc a.data.toList k.data.toList;rw[Array.length_toList]at this;exact this
theorem P0 (x y:List UInt8) (h:x=[]):shL x y=0:=by subst h;cases y <;> rfl
theorem P6 (x y:List UInt8) (h:y=[]):shL x y=0:=by subst h;cases x <;> rfl
def bAt (s:ByteArray) (n:Nat):UInt8:=s.data.toList.getD n 0
theorem oc {s:ByteArray} {n:Nat}(h:n<s.size):s.data.toList.drop n=bAt s n::s.data.toList.drop (n+1):=by
 have a:n<s.data.toList.length:=by rw[Array.length_toList];exact h
 rw[List.drop_eq_getElem_cons a,bAt,List.getD,List.getElem?_eq_getElem a];rfl
theorem yb {s:ByteArray} {n:Nat}(h:¬ n<s.size):s.data.toList.drop n=[]:=by
 apply List.drop_eq_nil_of_le
 rw[Array.length_toList];exact Nat.le_of_not_lt h
def bI (s:ByteArray):List Int:=s.data.toList.map fun b=>(b.toNat:Int)
theorem Gq (s:ByteArray):(bI s).length=s.size:=by
 unfold bI;rw[List.length_map,Array.length_toList];rfl
theorem Jf (a b:ByteArray):bI (a++b)=bI a++bI b:=by
 unfold bI;rw[<- List.map_append];congr 1
def byT (bs:List Int):ByteArray:=⟨(bs.map fun x=>x.toNat.toUInt8).toArray⟩
theorem qe (bs:List Int):(byT bs).size=bs.length:=by
 show (byT bs).data.size=_
 simp[byT]
theorem as6 (s:ByteArray):byT (bI s)=s:=by
 unfold byT bI;rw[List.map_map];have:((fun x:Int=>x.toNat.toUInt8) ∘ fun b:UInt8=>(b.toNat:Int))=id:=by
  funext b
  simp
 rw[this,List.map_id]
def je (p:ByteArray) (x:Rw):List Int :=
 [(shB p x.key:Int),(x.key.size:Int)-(shB p x.key:Int),(x.text.size:Int),(x.val.size:Int)]++bI (x.key.extract (shB p x.key) x.key.size)++bI x.text++bI x.val
def eh:ByteArray->List Rw->List Int
 | _,[]=>[]
 | p,x::l=>je p x++eh x.key l
def ie:ByteArray->List Rw->ByteArray
 | p,[]=>p
 | _,x::l=>ie x.key l
def et (l:List Rw):List Int:=[80,71,(l.length:Int)]++eh ⟨#[]⟩ l
theorem Bb:∀ (p:ByteArray) (l:List Rw) (x:Rw),eh p (l++[x])=eh p l++je (ie p l) x
 | p,[],x=>by simp[eh,ie]
 | p,y::l,x=>by
  show je p y++eh y.key (l++[x])=je p y++eh y.key l++je (ie y.key l) x
  rw[Bb y.key l x,List.append_assoc]
theorem Hq:∀ (p:ByteArray) (l:List Rw) (x:Rw),ie p (l++[x])=x.key
 | _,[],_=>rfl
 | _,y::l,x=>Hq y.key l x
theorem Bc {l:List Rw} {k:Nat} {x:Rw}(p:ByteArray) (h:l[k]? = some x):eh p (l.take (k+1))=eh p (l.take k)++je (ie p (l.take k)) x:=by
 rw[List.take_add_one,h];exact Bb p _ x
theorem Av {l:List Rw} {k:Nat} {x:Rw}(p:ByteArray) (h:l[k]? = some x):ie p (l.take (k+1))=x.key:=by
 rw[List.take_add_one,h];exact Hq p _ x
theorem xh (s:ByteArray) (n:Nat) (_h:n<=s.size):(s.extract n s.size).size=s.size-n:=by
 simp
theorem sm (p:ByteArray) (x:Rw):((je p x).length:Int)=4+(x.key.size:Int)-(shB p x.key:Int)+(x.text.size:Int)+(x.val.size:Int):=by
 have h:=E3 p x.key;unfold je;simp only[List.length_append,Gq,xh _ _ h,List.length_cons,List.length_nil];omega
def RwB (l:List Rw):Prop:=l.length<=255/\∀ x ∈ l,x.key.size<=255/\x.text.size<=255/\x.val.size<=255
theorem RwB.at {l:List Rw}(h:RwB l){k:Nat} {x:Rw}(a:l[k]? = some x):x.key.size<=255/\x.text.size<=255/\x.val.size<=255:=h.2 x (List.mem_of_getElem? a)
theorem ud {l:List Rw}(h:dm l=true):RwB l:=by
 refine⟨by have:=mz h;omega,fun x hx=>?_⟩;have:=N9 h x hx;omega
theorem F7 {p:ByteArray} {x:Rw}(h:x.key.size<=255/\x.text.size<=255/\x.val.size<=255):(je p x).length<=769:=by
 have:=sm p x;omega
theorem xt:∀ (p:ByteArray) (l:List Rw),(∀ x ∈ l,x.key.size<=255/\x.text.size<=255/\x.val.size<=255)->(eh p l).length<=769*l.length
 | _,[],_=>by simp[eh]
 | p,x::l,h=>by
  have h1:=F7 (p:=p) (h x (by simp));have a:=xt x.key l (fun y hy=>h y (by simp[hy]));simp only[eh,List.length_append,List.length_cons];omega
theorem Ns:∀ (p:ByteArray) (l:List Rw),p.size<=255->(∀ x ∈ l,x.key.size<=255/\x.text.size<=255/\x.val.size<=255)->(ie p l).size<=255
 | p,[],h,_=>h
 | p,x::l,_,h=>Ns x.key l (h x (by simp)).1 (fun y hy=>h y (by simp[hy]))
theorem Kl {l:List Rw} {k:Nat}(h:∀ x ∈ l,x.key.size<=255/\x.text.size<=255/\x.val.size<=255):∀ x ∈ l.take k,x.key.size<=255/\x.text.size<=255/\x.val.size<=255 :=
 fun x hx=>h x (List.mem_of_mem_take hx)
theorem zi {l:List Rw}(h:RwB l) (k:Nat):(eh ⟨#[]⟩ (l.take k)).length<=196095:=by
 have a:=xt ⟨#[]⟩ (l.take k) (Kl h.2);have b:(l.take k).length<=255:=by rw[List.length_take];have:=h.1;omega
 omega
theorem uu {l:List Rw}(h:RwB l) (k:Nat):(ie ⟨#[]⟩ (l.take k)).size<=255:=Ns _ _ (Nat.zero_le _) (Kl h.2)
theorem Bk (l:List Rw):l.take l.length=l:=by simp
def ko (l:List Rw):Bool:=!(l.length == 0) && dm l && decide ((et l).length<=300)
def pbT (l:List Rw):ByteArray:=if ko l then byT (et l) else ⟨#[]⟩
def hd (t:ByteArray) (i:Nat):Nat:=(bAt t i).toNat
theorem jc (t:ByteArray) (i:Nat):hd t i<256:=(bAt t i).toNat_lt
def o6 (p t:ByteArray):Bool:=decide (4<=t.size) && decide (hd t 0<=p.size) && decide (4+hd t 1+hd t 2+hd t 3<=t.size)
def ld (p t:ByteArray):Rw:=⟨p.extract 0 (hd t 0)++t.extract 4 (4+hd t 1),t.extract (4+hd t 1) (4+hd t 1+hd t 2),t.extract (4+hd t 1+hd t 2) (4+hd t 1+hd t 2+hd t 3)⟩
def kp (t:ByteArray):ByteArray:=t.extract (4+hd t 1+hd t 2+hd t 3) t.size
def rdF:Nat->ByteArray->ByteArray->Option (List Rw)
 | 0,_,_=>some []
 | k+1,p,t=>if o6 p t then (rdF k (ld p t).key (kp t)).map (ld p t::·) else none
theorem fh (s:ByteArray){a q:Nat}(h:q<=s.size):(s.extract a q).size=q-a:=by simp[ByteArray.size_extract];omega
theorem xf (s:ByteArray) (a q:Nat):(s.extract a q).data=s.data.extract a q:=by simp
theorem qo (s:ByteArray){a q i j:Nat}(_hq:q<=s.size) (b:a+j<=q):(s.extract a q).extract i j=s.extract (a+i) (a+j):=by
 apply ByteArray.ext
 rw[xf,xf,xf,Array.extract_extract];congr 1
 omega
theorem zl (s:ByteArray){a q i:Nat}(d:q<=s.size) (hi:a+i<q):bAt (s.extract a q) i=bAt s (a+i):=by
 unfold bAt;rw[xf];have e:s.data.size=s.size:=rfl;have b:i<(s.data.extract a q).size:=by rw[Array.size_extract];omega
 have c:a+i<s.data.size:=by omega
 simp only[List.getD,Array.getElem?_toList,Array.getElem?_eq_getElem b,Array.getElem?_eq_getElem c,Array.getElem_extract]
theorem td {p t:ByteArray}(h:o6 p t=true):4<=t.size/\hd t 0<=p.size/\4+hd t 1+hd t 2+hd t 3<=t.size:=by
 simp[o6]at h
 exact⟨h.1.1,h.1.2,h.2⟩
theorem Rq {p t:ByteArray}(h:o6 p t=true):(ld p t).key.size=hd t 0+hd t 1/\(ld p t).text.size=hd t 2/\(ld p t).val.size=hd t 3:=by
 obtain⟨b,a,c⟩:=td h;refine⟨?_,?_,?_⟩
 .show (p.extract 0 (hd t 0)++t.extract 4 (4+hd t 1)).size=_
  rw[ByteArray.size_append,fh p a,fh t (by omega)];omega
 .show (t.extract _ _).size=_
  rw[fh t (by omega)];omega
 .show (t.extract _ _).size=_
  rw[fh t (by omega)];omega
theorem Rp {p t:ByteArray}(h:o6 p t=true):(kp t).size+4<=t.size:=by
 obtain⟨a,b,c⟩:=td h;unfold kp;rw[fh t bR];omega
def lf1 (t:ByteArray):ByteArray:=t.extract 4 t.size
def lf2 (t:ByteArray):ByteArray:=(lf1 t).extract (hd t 1) (lf1 t).size
def lf3 (t:ByteArray):ByteArray:=(lf2 t).extract (hd t 2) (lf2 t).size
theorem Fm (t:ByteArray){a k:Nat}(b:a+k<=t.size):(t.extract a t.size).extract k (t.extract a t.size).size=t.extract (a+k) t.size:=by
 rw[fh t bR,qo t bR (by omega)];congr 1
 omega
theorem Nu {t:ByteArray}:(lf1 t).size=t.size-4:=fh t bR
theorem Nv {t:ByteArray}(h:4+hd t 1<=t.size):lf2 t=t.extract (4+hd t 1) t.size:=Fm t h
theorem Nw {t:ByteArray}(h:4+hd t 1<=t.size):(lf2 t).size=t.size-(4+hd t 1):=by rw[Nv h];exact fh t bR
theorem Nx {t:ByteArray}(h:4+hd t 1+hd t 2<=t.size):lf3 t=t.extract (4+hd t 1+hd t 2) t.size:=by
 unfold lf3;rw[Nv (by omega)];exact Fm t h
theorem Ny {t:ByteArray}(h:4+hd t 1+hd t 2<=t.size):(lf3 t).size=t.size-(4+hd t 1+hd t 2):=by rw[Nx h];exact fh t bR
theorem a28 {p t:ByteArray}(h:o6 p t=true):ld p t=⟨p.extract 0 (hd t 0)++(lf1 t).extract 0 (hd t 1),(lf2 t).extract 0 (hd t 2),(lf3 t).extract 0 (hd t 3)⟩/\kp t=(lf3 t).extract (hd t 3) (lf3 t).size:=by
 obtain⟨e,f,g⟩:=td h;have a:(lf1 t).extract 0 (hd t 1)=t.extract 4 (4+hd t 1):=qo t bR (by omega);have b:(lf2 t).extract 0 (hd t 2)=t.extract (4+hd t 1) (4+hd t 1+hd t 2):=by rw[Nv (by omega)];exact qo t bR (by omega)
 have c:(lf3 t).extract 0 (hd t 3)=t.extract (4+hd t 1+hd t 2) (4+hd t 1+hd t 2+hd t 3):=by rw[Nx (by omega)];exact qo t bR (by omega)
 have d:(lf3 t).extract (hd t 3) (lf3 t).size=kp t:=by rw[Nx (by omega)];exact Fm t (by omega)
 rw[a,b,c,d];exact⟨rfl,rfl⟩
def lp (s:ByteArray):Bool:=decide (hd s 0=80) && decide (hd s 1=71)
def kl (s:ByteArray) (l:List Rw):Bool:=!(l.length == 0) && dm l && decide (byT (et l)=s)
def f4 (s:ByteArray):Option (List Rw):=match rdF (hd s 2) ⟨#[]⟩ (s.extract 3 s.size) with
 | none=>none
 | some l=>if kl s l then some l else none
def m9 (s:ByteArray):Bool:=decide (3<=s.size) && decide (s.size<=300)
def an (s:ByteArray):List Rw:=if m9 s && lp s then (f4 s).getD [] else []
def da (s:ByteArray):Int:=if m9 s then (if lp s then (if (f4 s).isSome then 0 else 3) else 2) else 1
theorem av7 {s:ByteArray} {l:List Rw}(a:3<=s.size) (h:s.size<=300):decide (pbT l=s)=kl s l:=by
 unfold pbT kl
 cases hok:ko l
 .have c:¬ (⟨#[]⟩:ByteArray)=s:=fun e=>by rw[<- e]at a;exact absurd a (by decide)
  rw[if_neg (by simp),decide_eq_false c];unfold ko at hok;by_cases b:byT (et l)=s
  .have d:(et l).length<=300:=by rw[<- qe,b];exact h
   rw[decide_eq_true d,Bool.and_true]at hok;rw[hok,Bool.false_and]
  .rw[decide_eq_false b,Bool.and_false]
 .rw[if_pos rfl]
  unfold ko at hok;rw[Bool.and_eq_true]at hok;rw[hok.1,Bool.true_and]
theorem yj (s:ByteArray):(an s).length<=60:=by
 unfold an;split
 .unfold f4
  split
  .exact Nat.zero_le _
  .rename_i l h
   split
   .rename_i hp
    unfold kl at hp;rw[Bool.and_eq_true,Bool.and_eq_true]at hp;exact mz hp.1.2
   .exact Nat.zero_le _
 .exact Nat.zero_le _
def lnP (l:List Rw):Nat:=(et l).length
theorem Ck (l:List Rw):lnP l=3+(eh ⟨#[]⟩ l).length:=by
 unfold lnP et;rw[List.length_append];rfl
theorem Nz (l:List Rw) (x:Rw):lnP (l++[x])=lnP l+(je (ie ⟨#[]⟩ l) x).length:=by
 rw[Ck,Ck,Bb,List.length_append];omega
theorem ao3:lnP []=3:=rfl
theorem aq5 (k:ByteArray):shB ⟨#[]⟩ k=0:=by
 have:=Dz ⟨#[]⟩ k;have h:(⟨#[]⟩:ByteArray).size=0:=rfl;omega
theorem Hp:∀ (p:ByteArray) (q:List Rw),(ie p q).size<=p.size+(eh p q).length
 | p,[]=>Nat.le_add_right _ _
 | p,x::q=>by
  have h:=Hp x.key q;have a:=sm p x;have b:=Dz p x.key;show (ie x.key q).size<=p.size+(je p x++eh x.key q).length
  rw[List.length_append];omega
theorem Zv (q:List Rw) (x:Rw):lnP [x]<=lnP (q++[x]):=by
 have a:=sm (⟨#[]⟩:ByteArray) x;have d:=sm (ie ⟨#[]⟩ q) x;have e:=Hp ⟨#[]⟩ q;have f:=Dz (ie ⟨#[]⟩ q) x.key;have b:=Nz [] x;have c:ie ⟨#[]⟩ []=(⟨#[]⟩:ByteArray):=rfl;have g:(⟨#[]⟩:ByteArray).size=0:=rfl;have h:=Nz q x;have i:=Ck q;rw[List.nil_append,ao3,c]at b;rw[aq5]at a;omega
theorem Cl {l:List Rw}(h:RwB l):lnP l<=196098:=by
 rw[Ck];have a:=xt ⟨#[]⟩ l h.2;have b:=h.1;omega
def wn (l:List Rw) (lim:Nat):Nat:=((List.range l.length).find? fun k=>decide (lim<lnP (l.take (k+1)))).getD l.length
theorem ak4 (l:List Rw) (a:Nat):wn l a<=l.length/\(∀ j,j<wn l a->lnP (l.take (j+1))<=a)/\(wn l a<l.length->a<lnP (l.take (wn l a+1))):=by
 cases h:(List.range l.length).find? (fun k=>decide (a<lnP (l.take (k+1)))) with
 | none =>
  have b:wn l a=l.length:=by unfold wn;rw[h];rfl
  rw[b];refine⟨bR,fun j hj=>?_,fun c=>absurd c (Nat.lt_irrefl _)⟩;rw[List.find?_eq_none]at h;have:=h j (by simpa using hj);simp at this;exact this
 | some k =>
  have b:wn l a=k:=by unfold wn;rw[h];rfl
  rw[b];rw[List.find?_eq_some_iff_getElem]at h;obtain⟨e,i,g,d,f⟩:=h;simp at d g e;subst d;refine⟨by omega,fun j hj=>?_,fun _=>e⟩;have:=f j hj;simp at this;exact this
def us (acc:List (List Rw)) (l:List Rw):Option (List (List Rw)) :=
 if _h:l.length=0 then some acc
 else if _h1:wn l 300=0\/acc.length=40 then none
 else us (acc++[l.take (wn l 300)]) (l.drop (wn l 300))
termination_by l.length
decreasing_by
 rw[List.length_drop];omega
theorem Af {acc:List (List Rw)} {l:List Rw}(h:l.length=0):us acc l=some acc:=by rw[us,dif_pos h]
theorem Dq {acc:List (List Rw)} {l:List Rw}(h:l.length≠0) (h1:wn l 300=0\/acc.length=40):us acc l=none:=by rw[us,dif_neg h,dif_pos h1]
theorem Ml {acc:List (List Rw)} {l:List Rw}(h:l.length≠0) (h1:¬ wn l 300=0) (h2:¬ acc.length=40):us acc l=us (acc++[l.take (wn l 300)]) (l.drop (wn l 300)):=by
 rw[us,dif_neg h,dif_neg (fun c=>c.elim h1 h2)]
def scF:List (List Rw)->List Rw->Option (List (List Rw))
 | out,[]=>some out
 | out,x::l =>
  if 300<lnP [x] then none
  else match out.getLast? with
   | none=>scF (out++[[x]]) l
   | some p=>if lnP (p++[x])<=300 then scF (out.dropLast++[p++[x]]) l else scF (out++[[x]]) l
theorem xw {out:List (List Rw)} {l:List Rw} {x:Rw}(h:300<lnP [x]):scF out (x::l)=none:=by rw[scF,if_pos h]
theorem yl {l:List Rw} {x:Rw}(h:¬ 300<lnP [x]):scF [] (x::l)=scF [[x]] l:=by rw[scF,if_neg h];rfl
theorem xx {out:List (List Rw)} {p l:List Rw} {x:Rw}(h:¬ 300<lnP [x]) (h1:lnP (p++[x])<=300):scF (out++[p]) (x::l)=scF (out++[p++[x]]) l:=by
 rw[scF,if_neg h];simp[h1]
theorem zz {out:List (List Rw)} {p l:List Rw} {x:Rw}(h:¬ 300<lnP [x]) (h1:¬ lnP (p++[x])<=300):scF (out++[p]) (x::l)=scF (out++[p]++[[x]]) l:=by
 rw[scF,if_neg h];simp[h1]
theorem aq3 (l:List Rw):∀ (out r:List (List Rw)),scF out l=some r->out.length<=r.length:=by
 induction l with
 | nil =>
  intro out r h;have c:some out=some r:=h
  cases c
  exact bR
 | cons x l ih =>
  intro out r h;by_cases a:300<lnP [x]
  .rw[xw a]at h;cases h
  .cases hg:out.getLast? with
   | none =>
    obtain rfl:out=[]:=List.getLast?_eq_none_iff.1 hg;exact Nat.zero_le _
   | some p =>
    obtain⟨o,rfl⟩:∃ o,out=o++[p]:=List.getLast?_eq_some_iff.1 hg
    by_cases b:lnP (p++[x])<=300
    .rw[xx a b]at h
     have:=ih _ _ h;simp at this ⊢;omega
    .rw[zz a b]at h
     have:=ih _ _ h;simp at this ⊢;omega
def vg:Option (List (List Rw))->Option (List (List Rw))
 | none=>none
 | some r=>if r.length<=40 then some r else none
theorem Oz (out:List (List Rw)):∀ (m:Nat) (p l:List Rw),m<=l.length->(∀ j,j<m->lnP (p++l.take (j+1))<=300)->scF (out++[p]) l=scF (out++[p++l.take m]) (l.drop m)
 | 0,p,l,_,_=>by simp
 | m+1,p,[],h,_=>by simp at h
 | m+1,p,x::l,h,hj=>by
  have h1:lnP (p++[x])<=300:=by simpa using hj 0 (by omega)
  have a:¬ 300<lnP [x]:=by have:=Zv p x;omega
  rw[xx a h1,Oz out m (p++[x]) l (by simpa using h) (fun j hjm=>?_)]
  .simp
  .have:=hj (j+1) (by omega)
   simpa using this
theorem Mo:∀ (n:Nat) (l:List Rw) (out:List (List Rw)),l.length<=n->out.length<=40->(∀ p x,out.getLast? = some p->l.head? = some x->¬ lnP (p++[x])<=300)->us out l=vg (scF out l)
 | 0,l,out,hn,ho,_=>by
  obtain rfl:l=[]:=List.eq_nil_of_length_eq_zero (by omega);rw[Af rfl];show some out=if out.length<=40 then some out else none
  rw[if_pos ho]
 | n+1,l,out,hn,ho,hi=>by
  cases l with
  | nil =>
   rw[Af rfl];show some out=if out.length<=40 then some out else none
   rw[if_pos ho]
  | cons x l =>
   obtain⟨w1,w2,w3⟩:=ak4 (x::l) 300;by_cases a:wn (x::l) 300=0
   .rw[Dq (by simp) (.inl a)]
    have:=w3 (by rw[a];simp);rw[a]at this;rw[xw (by simpa using this)];rfl
   .obtain⟨m,d⟩:∃ m,wn (x::l) 300=m+1:=⟨wn (x::l) 300-1,by omega⟩
    rw[d]at w1 w2 w3;have e:¬ 300<lnP [x]:=by have:=w2 0 (by omega);simp at this;omega
    have c:scF out (x::l)=scF (out++[(x::l).take (m+1)]) ((x::l).drop (m+1)):=by
     have h:scF out (x::l)=scF (out++[[x]]) l:=by
      cases hg:out.getLast? with
      | none =>
       obtain rfl:out=[]:=List.getLast?_eq_none_iff.1 hg;exact yl e
      | some p =>
       obtain⟨i,rfl⟩:∃ o,out=o++[p]:=List.getLast?_eq_some_iff.1 hg
       exact zz e (hi p x hg rfl)
     rw[h,Oz out m [x] l (by simpa using w1) (fun j hj=>?_)]
     .simp
     .have:=w2 (j+1) (by omega)
      simpa using this
    by_cases b:out.length=40
    .rw[Dq (by simp) (.inr b),c]
     cases hs:scF (out++[(x::l).take (m+1)]) ((x::l).drop (m+1)) with
     | none=>rfl
     | some r =>
      have:=aq3 _ _ _ hs;rw[List.length_append]at this;simp at this;have f:¬ r.length<=40:=by omega
      show none=if r.length<=40 then some r else none
      rw[if_neg f]
    .rw[Ml (by simp) a b,d,c]
     refine Mo n _ _ (by rw[List.length_drop];simp at hn ⊢;omega) (by simp;omega) (fun p y hp hy=>?_);simp at hp;subst hp;rw[List.head?_drop]at hy;have g:m+1<(x::l).length:=(List.getElem?_eq_some_iff.1 hy).1;have:=w3 g;rw[List.take_add_one,hy]at this;simp at this ⊢;omega
def ur (l:List Rw):Option (List (List Rw)):=if dm l then us [] l else none
theorem am2 (l:List Rw):us [] l=vg (scF [] l) :=
 Mo l.length l [] bR (by simp) (fun p x hp=>by simp at hp)
theorem V6 {l:List Rw}(h:dm l=true) (n:Nat):dm (l.drop n)=true:=by
 refine ue (by have:=mz h;rw[List.length_drop];omega) (fun i hi=>?_);rw[List.length_drop]at hi;have a:=xj h (show n+i<l.length by omega);have e:∀ j,dh (l.drop n) j=dh l (n+j):=fun j=>by unfold dh;rw[List.getElem?_drop]
 unfold lq at a ⊢;rw[e];rw[Bool.and_eq_true]at a ⊢;refine⟨a.1,?_⟩;by_cases c:i=0
 .simp[c]
 .have b:=a.2
  rw[e];have d:(n+i == 0)=false:=by simp;omega
  have f:(i == 0)=false:=by simp[c]
  rw[d,Bool.false_or]at b;rw[f,Bool.false_or,show n+(i-1)=n+i-1 by omega];exact b
theorem V7 {l:List Rw}(h:dm l=true) (n:Nat):dm (l.take n)=true:=by
 refine ue (by have:=mz h;rw[List.length_take];omega) (fun i hi=>?_);rw[List.length_take]at hi;have a:=xj h (show i<l.length by omega);have e:∀ j,j<n->dh (l.take n) j=dh l j:=fun j hj=>by unfold dh;rw[List.getElem?_take_of_lt hj]
 unfold lq at a ⊢;rw[e i (by omega),e (i-1) (by omega)];exact a
theorem a06 {l:List Rw}(e:dm l=true) (_h0:l.length≠0) (f:¬ wn l 300=0):ko (l.take (wn l 300))=true:=by
 obtain⟨h,g,i⟩:=ak4 l 300;unfold ko;have a:=V7 e (wn l 300);have b:(et (l.take (wn l 300))).length<=300:=by
  have:=g (wn l 300-1) (by omega);rw[show wn l 300-1+1=wn l 300 by omega]at this;exact this
 have c:((l.take (wn l 300)).length == 0)=false:=by
  have d:(l.take (wn l 300)).length=wn l 300:=by rw[List.length_take];omega
  rw[d];simp[f]
 rw[a,c,decide_eq_true b];rfl
theorem Sn:∀ (n:Nat) (l:List Rw) (acc r:List (List Rw)),l.length<=n->dm l=true->acc.length<=40->(∀ p ∈ acc,ko p=true)->us acc l=some r->r.length<=40/\∀ p ∈ r,ko p=true
 | 0,l,acc,r,hn,_,ha,hp,h=>by
  rw[Af (by omega)]at h
  cases h
  exact⟨ha,hp⟩
 | n+1,l,acc,r,hn,hg,ha,hp,h=>by
  by_cases h0:l.length=0
  .rw[Af h0]at h
   cases h
   exact⟨ha,hp⟩
  .by_cases h1:wn l 300=0
   .rw[Dq h0 (.inl h1)]at h;cases h
   .by_cases h2:acc.length=40
    .rw[Dq h0 (.inr h2)]at h;cases h
    .rw[Ml h0 h1 h2]at h
     refine Sn n _ _ r (by rw[List.length_drop];omega) (V6 hg _) (by simp;omega) (fun p a=>?_) h;rcases List.mem_append.1 a with a|a
     .exact hp p a
     .simp at a
      rw[a];exact a06 hg h0 h1
theorem Sm {l:List Rw} {r:List (List Rw)}(h:ur l=some r):r.length<=40/\∀ p ∈ r,ko p=true:=by
 unfold ur at h;split at h
 .rename_i hg
  exact Sn l.length l [] r bR hg (by simp) (fun p hp=>by simp at hp) h
 .cases h
def gB (x:Int):UInt8:=x.toNat.toUInt8
theorem wy (bs:List Int):(byT bs).data.toList=bs.map gB:=by simp[byT,gB]
theorem Ts (s:ByteArray):(bI s).map gB=s.data.toList:=by
 have:=congrArg (fun t:ByteArray=>t.data.toList) (as6 s);rw[wy]at this;exact this
theorem xg (s:ByteArray) (a b:Nat):(s.extract a b).data.toList=(s.data.toList.drop a).take (b-a):=by
 rw[xf,Array.toList_extract,List.extract_eq_take_drop]
theorem Gr {s t:ByteArray}(h:s.data.toList=t.data.toList):s=t:=ByteArray.ext (Array.toList_inj.1 h)
theorem seg {t:ByteArray} {a b c:List UInt8} {i n:Nat}(h:t.data.toList=a++(b++c)) (d:a.length=i) (e:b.length=n):(t.extract i (i+n)).data.toList=b:=by
 subst d;subst e;rw[xg,h,List.drop_left];simp
theorem Ta {t:ByteArray} {a c:List UInt8} {i:Nat}(h:t.data.toList=a++c) (d:a.length=i):(t.extract i t.size).data.toList=c:=by
 subst d;have e:t.size=a.length+c.length:=by
  have b:t.data.toList.length=t.size:=Array.length_toList;rw[h,List.length_append]at b;exact b.symm
 rw[xg,h,List.drop_left,e];simp
theorem Pa:∀ (x y:List UInt8),x.take (shL x y)=y.take (shL x y)
 | [],y=>by cases y <;> simp[shL]
 | a::x,[]=>by simp[shL]
 | a::x,b::y=>by
  unfold shL;split
  .rename_i h
   simp[h,Pa x y]
  .simp
theorem Cd {n:Nat}(h:n<=255):(gB (n:Int)).toNat=n:=by
 unfold gB;simp
 omega
theorem aa3 {a c:List UInt8} {i:Nat}(h:i<a.length):(a++c).getD i 0=a.getD i 0:=by
 simp[List.getD,List.getElem?_append_left h]
theorem ag2 (p:ByteArray) (x:Rw) (rs:List Int):(byT (je p x++rs)).data.toList=[gB (shB p x.key:Int),gB ((x.key.size:Int)-(shB p x.key:Int)),gB (x.text.size:Int),gB (x.val.size:Int)]++((x.key.data.toList.drop (shB p x.key))++(x.text.data.toList++(x.val.data.toList++rs.map gB))):=by
 rw[wy,List.map_append];unfold je;rw[List.map_append,List.map_append,List.map_append,Ts,Ts,Ts,xg];have h:(x.key.data.toList.drop (shB p x.key)).take (x.key.size-shB p x.key)=x.key.data.toList.drop (shB p x.key):=by
  apply List.take_of_length_le
  have a:x.key.data.toList.length=x.key.size:=Array.length_toList;rw[List.length_drop,a];exact bR
 rw[h];simp
theorem Ap {t:ByteArray} {a c:List UInt8} {i n:Nat}(h:t.data.toList=a++c) (hi:i<a.length) (b:(a.getD i 0).toNat=n):hd t i=n:=by
 unfold hd bAt;rw[h,aa3 hi];exact b
theorem ag1 {p:ByteArray} {x:Rw} {rs:List Int}(z:p.size<=255) (h0:x.key.size<=255) (h1:x.text.size<=255) (h2:x.val.size<=255) :
  o6 p (byT (je p x++rs))=true/\ld p (byT (je p x++rs))=x/\kp (byT (je p x++rs))=byT rs:=by
 have a:=ag2 p x rs;have B:=Dz p x.key;have C:=E3 p x.key;have v:x.key.data.toList.length=x.key.size:=Array.length_toList;have lt:x.text.data.toList.length=x.text.size:=Array.length_toList;have i:x.val.data.toList.length=x.val.size:=Array.length_toList;have y:(byT (je p x++rs)).size=(je p x).length+rs.length:=by rw[qe,List.length_append]
 have w:=sm p x;generalize byT (je p x++rs)=t at *;have h:hd t 0=shB p x.key:=Ap a (by simp) (Cd (n:=shB p x.key) (by omega));have b:hd t 1=x.key.size-shB p x.key:=Ap a (by simp) (by
  have e:((x.key.size:Int)-(shB p x.key:Int))=((x.key.size-shB p x.key:Nat):Int):=by omega
  show (gB ((x.key.size:Int)-(shB p x.key:Int))).toNat=_
  rw[e];exact Cd (by omega))
 have c:hd t 2=x.text.size:=Ap a (by simp) (Cd h1);have g:hd t 3=x.val.size:=Ap a (by simp) (Cd h2);generalize hA:[gB (shB p x.key:Int),gB ((x.key.size:Int)-(shB p x.key:Int)),gB (x.text.size:Int),gB (x.val.size:Int)]=A at a;have d:A.length=4:=by rw[<- hA];rfl
 have f:(x.key.data.toList.drop (shB p x.key)).length=x.key.size-shB p x.key:=by rw[List.length_drop,v]
 have o:(t.extract 4 (4+hd t 1)).data.toList=x.key.data.toList.drop (shB p x.key):=by rw[b];exact seg a d f
 have j:t.data.toList=(A++x.key.data.toList.drop (shB p x.key))++(x.text.data.toList++(x.val.data.toList++rs.map gB)):=by rw[a];simp
 have q:(t.extract (4+hd t 1) (4+hd t 1+hd t 2)).data.toList=x.text.data.toList:=by
  rw[c];exact seg j (by rw[List.length_append,d,f,b]) lt
 have l:t.data.toList=(A++x.key.data.toList.drop (shB p x.key)++x.text.data.toList)++(x.val.data.toList++rs.map gB):=by rw[a];simp
 have r:(t.extract (4+hd t 1+hd t 2) (4+hd t 1+hd t 2+hd t 3)).data.toList=x.val.data.toList:=by
  rw[g];exact seg l (by rw[List.length_append,List.length_append,d,f,lt,b,c]) i
 have m:t.data.toList=(A++x.key.data.toList.drop (shB p x.key)++x.text.data.toList++x.val.data.toList)++rs.map gB:=by rw[a];simp
 have s:(t.extract (4+hd t 1+hd t 2+hd t 3) t.size).data.toList=rs.map gB:=Ta m (by rw[List.length_append,List.length_append,List.length_append,d,f,lt,i,b,c,g]);have u:(p.extract 0 (hd t 0)).data.toList=x.key.data.toList.take (shB p x.key):=by
  rw[h,xg];have:=Pa p.data.toList x.key.data.toList;simp
  exact this
 refine⟨?_,?_,?_⟩
 .unfold o6
  rw[h,b,c,g];simp
  omega
 .unfold ld
  obtain⟨k,D,E⟩:=x;congr 1
  .apply Gr
   have:(p.extract 0 (hd t 0)++t.extract 4 (4+hd t 1)).data.toList=(p.extract 0 (hd t 0)).data.toList++(t.extract 4 (4+hd t 1)).data.toList:=by simp
   rw[this,u,o];simp
  .exact Gr q
  .exact Gr r
 .unfold kp
  apply Gr
  rw[s,wy]
theorem Kx:∀ (l:List Rw) (p:ByteArray),p.size<=255->(∀ x ∈ l,x.key.size<=255/\x.text.size<=255/\x.val.size<=255)->rdF l.length p (byT (eh p l))=some l
 | [],p,_,_=>rfl
 | x::l,p,hp,h=>by
  obtain⟨h0,h1,h2⟩:=h x (by simp);obtain⟨a,b,c⟩:=ag1 (rs:=eh x.key l) hp h0 h1 h2;show rdF (l.length+1) p (byT (je p x++eh x.key l))=_
  unfold rdF;rw[a,b,c,if_pos rfl,Kx l x.key h0 (fun y hy=>h y (by simp[hy]))];rfl
def pgB (g:List Rw):ByteArray:=byT (et g)
theorem Of (g:List Rw):(pgB g).size=lnP g:=qe _
theorem ae4 (g:List Rw):(pgB g).data.toList=[gB 80,gB 71,gB (g.length:Int)]++(eh ⟨#[]⟩ g).map gB:=by
 unfold pgB et;rw[wy,List.map_append];rfl
theorem Kq {g:List Rw}(h0:0<g.length) (d:dm g=true) (m:lnP g<=300):da (pgB g)=0/\an (pgB g)=g:=by
 have c:=ud d;have a:=ae4 g;have o:=Of g;have k:3<=lnP g:=by rw[Ck];omega
 have b:m9 (pgB g)=true:=by unfold m9;rw[o,decide_eq_true k,decide_eq_true m];rfl
 have h:hd (pgB g) 0=80:=Ap a (by simp) rfl;have i:hd (pgB g) 1=71:=Ap a (by simp) rfl;have j:hd (pgB g) 2=g.length:=Ap a (by simp) (Cd c.1);have e:lp (pgB g)=true:=by unfold lp;rw[h,i];rfl
 have l:(pgB g).extract 3 (pgB g).size=byT (eh ⟨#[]⟩ g):=by
  apply Gr
  rw[wy];exact Ta a rfl
 have f:f4 (pgB g)=some g:=by
  unfold f4;rw[j,l,Kx g ⟨#[]⟩ (Nat.zero_le _) c.2];have n:kl (pgB g) g=true:=by
   unfold kl;rw[d,decide_eq_true (show byT (et g)=pgB g from rfl)];have:(g.length == 0)=false:=by rw[beq_eq_false_iff_ne];omega
   rw[this];rfl
  simp[n]
 constructor
 .unfold da;rw[b,e,f];rfl
 .unfold an;rw[b,e,f];rfl
theorem a14 {g:List Rw}(a:¬ lnP g<=300):da (pgB g)=1:=by
 unfold da m9;rw[Of,decide_eq_false a];simp
def mu (l:List Rw):ByteArray:=(dh l (l.length-1)).key
def qb (l:List Rw):ByteArray:=(dh l 0).key
def ft (acc:List (List Rw)) (s:ByteArray):Bool :=
 decide (da s=0) && (match acc.getLast? with|none=>true|some l=>ltK (mu l) (qb (an s)))
def bkF:List (List Rw)->List ByteArray->Option (List (List Rw))
 | acc,[]=>some acc
 | acc,s::ss=>if ft acc s then bkF (acc++[an s]) ss else none
def ca (ss:List ByteArray):Option (List (List Rw)):=if ss.length<=40 then bkF [] ss else none
theorem Dm {acc:List (List Rw)} {ss:List ByteArray} {k:Nat} {s:ByteArray}(h:ss[k]? = some s) (b:ft acc s=true):bkF acc (ss.drop k)=bkF (acc++[an s]) (ss.drop (k+1)):=by
 have hd:ss.drop k=s::ss.drop (k+1):=by
  obtain⟨a,rfl⟩:=List.getElem?_eq_some_iff.1 h;exact List.drop_eq_getElem_cons a
 rw[hd];simp[bkF,b]
theorem Gx {acc:List (List Rw)} {ss:List ByteArray} {k:Nat} {s:ByteArray}(h:ss[k]? = some s) (b:ft acc s=false):bkF acc (ss.drop k)=none:=by
 have hd:ss.drop k=s::ss.drop (k+1):=by
  obtain⟨a,rfl⟩:=List.getElem?_eq_some_iff.1 h;exact List.drop_eq_getElem_cons a
 rw[hd];simp[bkF,b]
theorem vu {s:ByteArray}(h:da s=0):0<(an s).length:=by
 unfold da at h;unfold an
 cases h1:m9 s
 .rw[h1]at h;simp at h
 cases h2:lp s
 .rw[h1,h2]at h;simp at h
 rw[h1,h2]at h;simp only[if_true,Bool.and_self]at h ⊢
 cases h3:f4 s with
 | none=>rw[h3]at h;simp at h
 | some l =>
  unfold f4 at h3;split at h3
  .cases h3
  .rename_i l' _
   split at h3
   .rename_i hp
    obtain rfl:=Option.some.inj h3;unfold kl at hp;simp only[Bool.and_eq_true,Bool.not_eq_true',beq_eq_false_iff_ne,ne_eq]at hp;show 0<l'.length
    omega
   .cases h3
def dp (ss:List ByteArray) (k:Nat):List (List Rw):=(ss.take k).map an
theorem wu {ss:List ByteArray} {k:Nat}(h:k<=ss.length):(dp ss k).length=k:=by simp[dp,h]
theorem mg {ss:List ByteArray} {k:Nat} {s:ByteArray}(h:ss[k]? = some s):dp ss k++[an s]=dp ss (k+1):=by
 unfold dp;rw[List.take_add_one,h];simp
theorem ak8 {ss:List ByteArray} {k j:Nat} {s:ByteArray}(h:ss[j]? = some s) (a:j<k):(dp ss k)[j]? = some (an s):=by
 unfold dp;rw[List.getElem?_map,List.getElem?_take_of_lt a,h];rfl
theorem Ew {ss:List ByteArray} {s:ByteArray}:ft (dp ss 0) s=decide (da s=0):=by simp[ft,dp]
theorem Ev {ss:List ByteArray} {j:Nat} {y s:ByteArray}(h:ss[j]? = some y):ft (dp ss (j+1)) s=(decide (da s=0) && ltK (mu (an y)) (qb (an s))):=by
 unfold ft;rw[<- mg h];simp
theorem Sf (ss:List ByteArray) (acc:List (List Rw)):bkF acc (ss.drop ss.length)=some acc:=by simp[bkF]
theorem Ss {l:List Rw} {x:Rw}(h:l[l.length-1]? = some x):mu l=x.key:=by unfold mu dh;rw[h];rfl
theorem Se {l:List Rw} {x:Rw}(h:l[0]? = some x):qb l=x.key:=by unfold qb dh;rw[h];rfl
def inK (lo hi:ByteArray) (x:Rw):Bool:=!ltK x.key lo && ltK x.key hi
theorem Y0:∀ (ss:List ByteArray) (acc gs:List (List Rw)),bkF acc ss=some gs->gs=acc++ss.map an
 | [],acc,gs,h=>by simp[bkF]at h;simp[h]
 | s::ss,acc,gs,h=>by
  unfold bkF at h;split at h
  .rw[Y0 ss _ gs h];simp
  .cases h
theorem Md {ss:List ByteArray} {gs:List (List Rw)}(h:ca ss=some gs):gs.length<=40/\∀ l ∈ gs,l.length<=60:=by
 unfold ca at h;split at h
 .rename_i hl
  rw[Y0 ss [] gs h];refine⟨by simpa using hl,fun l hm=>?_⟩;simp at hm;obtain⟨s,_,rfl⟩:=hm;exact yj s
 .cases h

def n7 (a b:ByteArray):Int:=Lib.compareBytes a.data.toList b.data.toList
theorem E5 (a b:ByteArray) (w:World) :
  Calls prog 150 #[.string a,.string b] w fun e w'=>e=.returned (.int .i64 (n7 a b))/\w'=w:=by
 go_enter func150,ntmps150;go_wp2;rw[run_callFunc_extern func174 (by kernel_rfl) (by kernel_rfl) (by kernel_rfl) (e:=Extern.BytealgCompare.compare) (by kernel_rfl),Lib.run_compareString];simp only[Result.andThen];rw[Oper.upon_value];go_wp2;go_ret;exact⟨rfl,rfl⟩
theorem J7 (a b:ByteArray) (w:World) :
  Calls prog 130 #[.string a,.string b] w fun e w'=>e=.returned (.int .i64 (n7 a b))/\w'=w:=by
 have A:=fun w=>E5 a b w
 go_enter func130,ntmps130;go_wp2_with fail;refine (A _).mono ?_;rintro e c ⟨rfl,rfl⟩;clear A;go_wp2;go_ret;exact⟨rfl,rfl⟩
theorem Ct (x:Rw) (key:ByteArray) (w:World) :
  Calls prog 129 #[.agg #[.string x.key,.string x.text,.string x.val],.string key] w fun e w'=>e=.returned (.int .i64 (n7 x.key key))/\Below w.heap.size w w':=by
 have A:=fun w=>J7 x.key key w
 have a:Hid (∀ o,Below w.heap.size w (w.alloc o)):=fun o=>(Below.refl w.heap.size w).alloc bR o
 go_enter func129,ntmps129;go_wp2_with fail;refine (A _).mono ?_;rintro e b ⟨rfl,rfl⟩;clear A;go_wp2;go_ret;exact⟨rfl,a.out _⟩
def bsF (l:List Rw) (key:ByteArray) (i j:Nat):Nat :=
 if i<j then
  if n7 (dh l ((i+j) / 2)).key key<0 then bsF l key ((i+j) / 2+1) j else bsF l key i ((i+j) / 2)
 else i
termination_by j-i
decreasing_by all_goals omega
theorem Y7 {l:List Rw} {key:ByteArray} {i j:Nat}(h:i<j) (a:n7 (dh l ((i+j) / 2)).key key<0):bsF l key i j=bsF l key ((i+j) / 2+1) j:=by
 rw[bsF,if_pos h,if_pos a]
theorem Mf {l:List Rw} {key:ByteArray} {i j:Nat}(h:i<j) (a:¬ n7 (dh l ((i+j) / 2)).key key<0):bsF l key i j=bsF l key i ((i+j) / 2):=by
 rw[bsF,if_pos h,if_neg a]
theorem Dp {l:List Rw} {key:ByteArray} {i j:Nat}(h:¬ i<j):bsF l key i j=i:=by rw[bsF,if_neg h]
def az (l:List Rw) (key:ByteArray):Nat:=bsF l key 0 l.length
def d9 (l:List Rw) (key:ByteArray):Bool:=decide (az l key<l.length) && decide (n7 (dh l (az l key)).key key=0)
theorem Mh:∀ a b:List UInt8,Lib.compareBytes a b<0↔Op.bytesLess a b=true
 | [],[]=>by simp[Lib.compareBytes,Op.bytesLess]
 | [],_::_=>by simp[Lib.compareBytes,Op.bytesLess]
 | _::_,[]=>by simp[Lib.compareBytes,Op.bytesLess]
 | x::a,y::b=>by
  have f:=Mh a b;unfold Lib.compareBytes Op.bytesLess;by_cases h:x<y
  .simp[h]
  .by_cases c:y<x
   .have d:x≠y:=fun e=>by subst e;exact h c
    simp[h,c,d]
   .have d:x=y:=UInt8.le_antisymm (UInt8.not_lt.1 c) (UInt8.not_lt.1 h)
    subst d;simp only[h,if_false,f,decide_false,beq_self_eq_true,Bool.true_and,Bool.false_or]
theorem Jn:∀ a b:List UInt8,Lib.compareBytes a b=0↔a=b
 | [],[]=>by simp[Lib.compareBytes]
 | [],_::_=>by simp[Lib.compareBytes]
 | _::_,[]=>by simp[Lib.compareBytes]
 | x::a,y::b=>by
  have f:=Jn a b;unfold Lib.compareBytes;by_cases h:x<y
  .have c:x≠y:=fun e=>by subst e;exact absurd h (UInt8.lt_irrefl _)
   simp[h,c]
  .by_cases d:y<x
   .have c:x≠y:=fun e=>by subst e;exact absurd d (UInt8.lt_irrefl _)
    simp[h,d,c]
   .have c:x=y:=UInt8.le_antisymm (UInt8.not_lt.1 d) (UInt8.not_lt.1 h)
    subst c;simp only[h,if_false,f,List.cons.injEq,true_and]
theorem Fi (a b:ByteArray):n7 a b<0↔ltK a b=true:=by
 unfold n7 ltK;rw[ByteArray.toList_eq,ByteArray.toList_eq];exact Mh _ _
theorem ya (a b:ByteArray):n7 a b=0↔a=b:=by
 unfold n7;rw[Jn];constructor
 .intro h
  exact ByteArray.ext (Array.ext' h)
 .rintro rfl;rfl
theorem lf {a b c:ByteArray}(h1:ltK a b=true) (h2:ltK b c=true):ltK a c=true:=Hs _ _ _ h1 h2
theorem Dv (a:ByteArray):ltK a a=false:=Et _
theorem T1 {a b:ByteArray}(h1:ltK a b=false) (h2:a≠b):ltK b a=true:=by
 rcases Hr a.toList b.toList with h|h|h
 .unfold ltK at h1;rw[h1]at h;cases h
 .rw[ByteArray.toList_eq,ByteArray.toList_eq,beq_iff_eq]at h
  exact absurd (ByteArray.ext (Array.ext' h)) h2
 .exact h
def lm (l:List Rw):Prop:=∀ i j,i<j->j<l.length->ltK (dh l i).key (dh l j).key=true
theorem p9 {l:List Rw}(h:dm l=true):lm l:=by
 intro i j f b;obtain⟨d,rfl⟩:∃ d,j=i+1+d:=⟨j-i-1,by omega⟩
 induction d with
 | zero =>
  have:=xj h b;unfold lq at this;simpa using (Bool.and_eq_true _ _ ▸ this).2
 | succ d ih =>
  have c:=ih (by omega) (by omega);have a:=xj h b;unfold lq at a;have e:ltK (dh l (i+1+d)).key (dh l (i+1+(d+1))).key=true:=by
   have:=(Bool.and_eq_true _ _ ▸ a).2;simpa using this
  exact lf c e
theorem mx {l:List Rw} {i:Nat} {x:Rw}(h:l[i]? = some x):dh l i=x:=by unfold dh;rw[h];rfl
theorem zy {l:List Rw} {i:Nat}(h:i<l.length):l[i]? = some (dh l i):=by unfold dh;rw[List.getElem?_eq_getElem h];rfl
theorem Mg {l:List Rw} {key:ByteArray}(a:lm l):∀ (n i j:Nat),j-i<=n->i<=j->j<=l.length->(∀ p,p<i->ltK (dh l p).key key=true)->(∀ p,j<=p->p<l.length->ltK (dh l p).key key=false) ->
  bsF l key i j<=l.length/\(∀ p,p<bsF l key i j->ltK (dh l p).key key=true)/\(∀ p,bsF l key i j<=p->p<l.length->ltK (dh l p).key key=false)
 | 0,i,j,hn,h1,h2,h3,h4=>by
  rw[Dp (by omega)];obtain rfl:i=j:=by omega
  exact⟨h2,h3,h4⟩
 | n+1,i,j,hn,h1,h2,h3,h4=>by
  by_cases c:i<j
  .by_cases d:n7 (dh l ((i+j) / 2)).key key<0
   .rw[Y7 c d]
    refine Mg a n _ j (by omega) (by omega) h2 (fun p hp=>?_) h4;by_cases e:p=(i+j) / 2
    .rw[e];exact (Fi _ _).1 d
    .exact lf (a p ((i+j) / 2) (by omega) (by omega)) ((Fi _ _).1 d)
   .rw[Mf c d]
    refine Mg a n i _ (by omega) (by omega) (by omega) h3 (fun p hp hl=>?_);have b:ltK (dh l ((i+j) / 2)).key key=false:=by
     cases e:ltK (dh l ((i+j) / 2)).key key
     .rfl
     .exact absurd ((Fi _ _).2 e) d
    by_cases e:p=(i+j) / 2
    .rw[e];exact b
    .cases f:ltK (dh l p).key key
     .rfl
     .rw[lf (a ((i+j) / 2) p (by omega) hl) f]at b;cases b
  .rw[Dp c]
   obtain rfl:i=j:=by omega
   exact⟨h2,h3,h4⟩
theorem n6 {l:List Rw}(key:ByteArray) (a:lm l):az l key<=l.length/\(∀ p,p<az l key->ltK (dh l p).key key=true)/\(∀ p,az l key<=p->p<l.length->ltK (dh l p).key key=false) :=
 Mg a l.length 0 l.length (by omega) (by omega) bR (fun p hp=>by omega) (fun p h1 h2=>by omega)
def ak3 (l:List Rw) (key:ByteArray):Rw:=(l.find? fun x=>decide (x.key=key)).getD rwZ
theorem py {l:List Rw} {key:ByteArray}(g:lm l) (h:d9 l key=true):ak3 l key=dh l (az l key)/\az l key<l.length:=by
 obtain⟨i,f,k⟩:=n6 key g;unfold d9 at h;rw[Bool.and_eq_true,decide_eq_true_eq,decide_eq_true_eq,ya]at h;refine⟨?_,h.1⟩;unfold ak3;have:l.find? (fun x=>decide (x.key=key))=some (dh l (az l key)):=by
  rw[List.find?_eq_some_iff_getElem];refine⟨by simpa using h.2,az l key,h.1,?_,fun j hj=>?_⟩
  .have:=zy h.1
   rw[List.getElem?_eq_getElem h.1]at this;exact Option.some.inj this
  .have a:j<l.length:=by omega
   have e:=zy a;rw[List.getElem?_eq_getElem a]at e;have d:=Option.some.inj e;have b:=f j hj;rw[d];have:¬ (dh l j).key=key:=fun c=>by rw[c,Dv]at b;cases b
   simp[this]
 rw[this];rfl
theorem a27 {l:List Rw} {key:ByteArray}(k:lm l) (h:d9 l key=false):∀ x ∈ l,x.key≠key:=by
 intro x q c;obtain⟨i,j⟩:=List.getElem?_of_mem q;have m:=(List.getElem?_eq_some_iff.1 j).1;obtain⟨r,n,o⟩:=n6 key k;have a:=mx j;have t:az l key<=i:=by
  apply Classical.byContradiction
  intro s;have:=n i (by omega);rw[a,c,Dv]at this
  cases this
 have d:az l key<l.length:=by omega
 unfold d9 at h;rw[decide_eq_true d,Bool.true_and,decide_eq_false_iff_not,ya]at h;have p:=o _ bR d;have b:=T1 p h;by_cases e:az l key=i
 .rw[e,a,c,Dv]at b;cases b
 .have f:=k (az l key) i (by omega) m
  rw[a,c]at f;have g:=lf b f;rw[Dv]at g;cases g
theorem Wf {s:ByteArray}(h:da s=0):dm (an s)=true:=by
 unfold da at h;unfold an
 cases h1:m9 s
 .rw[h1]at h;simp at h
 cases h2:lp s
 .rw[h1,h2]at h;simp at h
 rw[h1,h2]at h;simp only[if_true,Bool.and_self]at h ⊢
 cases h3:f4 s with
 | none=>rw[h3]at h;simp at h
 | some l =>
  unfold f4 at h3;split at h3
  .cases h3
  .rename_i l' _
   split at h3
   .rename_i hp
    obtain rfl:=Option.some.inj h3;unfold kl at hp;rw[Bool.and_eq_true,Bool.and_eq_true]at hp;exact hp.1.2
   .cases h3
structure uk (gs:List (List Rw)):Prop where
 good:∀ g ∈ gs,dm g=true/\0<g.length
 rise:∀ (i:Nat) (a b:List Rw),gs[i]? = some a->gs[i+1]? = some b->ltK (mu a) (qb b)=true
theorem a20 {s:ByteArray}(h:da s=0):lnP (an s)<=300:=by
 unfold da at h;unfold an
 cases h1:m9 s
 .rw[h1]at h;simp at h
 cases h2:lp s
 .rw[h1,h2]at h;simp at h
 rw[h1,h2]at h;simp only[if_true,Bool.and_self]at h ⊢
 cases h3:f4 s with
 | none=>rw[h3]at h;simp at h
 | some l =>
  unfold f4 at h3;split at h3
  .cases h3
  .rename_i l' _
   split at h3
   .rename_i hp
    obtain rfl:=Option.some.inj h3;unfold kl at hp;rw[Bool.and_eq_true,decide_eq_true_eq]at hp;unfold m9 at h1;rw[Bool.and_eq_true,decide_eq_true_eq,decide_eq_true_eq]at h1;show lnP l'<=300
    have:(byT (et l')).size=lnP l':=qe _;rw[hp.2]at this;omega
   .cases h3
theorem Ma:∀ (ss:List ByteArray) (acc gs:List (List Rw)),bkF acc ss=some gs->uk acc->(∀ g ∈ acc,lnP g<=300)->uk gs/\∀ g ∈ gs,lnP g<=300
 | [],acc,gs,h,ha,hl=>by simp[bkF]at h;subst h;exact⟨ha,hl⟩
 | s::ss,acc,gs,h,ha,hl=>by
  unfold bkF at h;split at h
  .rename_i ho
   unfold ft at ho;rw[Bool.and_eq_true,decide_eq_true_eq]at ho;refine Ma ss _ gs h ⟨fun g d=>?_,fun i a b h1 h2=>?_⟩ (fun g d=>?_)
   .rcases List.mem_append.1 d with d|d
    .exact ha.good g d
    .simp at d
     subst d;exact⟨Wf ho.1,vu ho.1⟩
   .by_cases c:i+1<acc.length
    .rw[List.getElem?_append_left (by omega)]at h1
     rw[List.getElem?_append_left c]at h2;exact ha.rise i a b h1 h2
    .have hi:=(List.getElem?_eq_some_iff.1 h2).1
     simp at hi;have e:acc.length=i+1:=by omega
     rw[List.getElem?_append_left (by omega)]at h1;rw[List.getElem?_append_right (by omega),e]at h2;simp at h2;subst h2;have f:acc.getLast? = some a:=by rw[List.getLast?_eq_getElem?,e];exact h1
     rw[f]at ho;exact ho.2
   .rcases List.mem_append.1 d with d|d
    .exact hl g d
    .simp at d
     subst d;exact a20 ho.1
  .cases h
theorem uz {ss:List ByteArray} {gs:List (List Rw)}(h:ca ss=some gs):uk gs/\(∀ g ∈ gs,lnP g<=300)/\gs.length<=40:=by
 have d:=(Md h).1;unfold ca at h;split at h
 .obtain⟨c,e⟩:=Ma ss [] gs h ⟨fun g hg=>by simp at hg,fun i a b c=>by simp at c⟩ (fun g hg=>by simp at hg)
  exact⟨c,e,d⟩
 .cases h
theorem M9:∀ (gs acc:List (List Rw)),uk (acc++gs)->(∀ g ∈ gs,lnP g<=300)->bkF acc (gs.map pgB)=some (acc++gs)
 | [],acc,_,_=>by simp[bkF]
 | g::gs,acc,hb,hl=>by
  obtain⟨f,c⟩:=hb.good g (by simp);obtain⟨d,b⟩:=Kq c f (hl g (by simp));have i:ft acc (pgB g)=true:=by
   unfold ft;rw[d,b]
   cases h:acc.getLast? with
   | none=>rfl
   | some a =>
    have j:acc.length≠0:=fun e=>by rw[List.eq_nil_of_length_eq_zero e]at h;simp at h
    rw[List.getLast?_eq_getElem?]at h;have:=hb.rise (acc.length-1) a g (by rw[List.getElem?_append_left (by omega)];exact h) (by rw[List.getElem?_append_right (by omega),show acc.length-1+1-acc.length=0 by omega];rfl);simpa using this
  show bkF acc (pgB g::gs.map pgB)=_
  unfold bkF;rw[i,if_pos rfl,b,M9 gs (acc++[g]) (by simpa using hb) (fun x hx=>hl x (by simp[hx]))];simp
theorem Mb:∀ (gs acc:List (List Rw)),uk (acc++gs)->(∃ g ∈ gs,¬ lnP g<=300)->bkF acc (gs.map pgB)=none
 | [],_,_,h=>by obtain⟨g,a,_⟩:=h;simp at a
 | g::gs,acc,hb,h=>by
  show bkF acc (pgB g::gs.map pgB)=none
  unfold bkF;by_cases b:lnP g<=300
  .obtain⟨a,e⟩:=hb.good g (by simp)
   obtain⟨_,f⟩:=Kq e a b;split
   .rw[f]
    refine Mb gs (acc++[g]) (by simpa using hb) ?_;obtain⟨x,c,d⟩:=h;rcases List.mem_cons.1 c with rfl|c
    .exact absurd b d
    .exact⟨x,c,d⟩
   .rfl
  .rw[if_neg]
   unfold ft;rw[a14 b];simp
theorem Tv {gs:List (List Rw)}(d:uk gs):ca (gs.map pgB)=if gs.length<=40/\(∀ g ∈ gs,lnP g<=300) then some gs else none:=by
 unfold ca;rw[List.length_map];by_cases a:gs.length<=40
 .rw[if_pos a]
  by_cases b:∀ g ∈ gs,lnP g<=300
  .rw[if_pos ⟨a,b⟩]
   have:=M9 gs [] (by simpa using d) b;simpa using this
  .rw[if_neg (fun c=>b c.2)]
   refine Mb gs [] (by simpa using d) ?_;apply Classical.byContradiction
   intro e;exact b fun g hg=>Classical.byContradiction fun c=>e ⟨g,hg,c⟩
 .rw[if_neg a,if_neg (fun c=>a c.1)]
theorem af8 {g:List Rw}(a:lm g) (h0:0<g.length):qb g=mu g\/ltK (qb g) (mu g)=true:=by
 by_cases h:g.length=1
 .left
  unfold qb mu;rw[h]
 .right
  exact a 0 (g.length-1) (by omega) (by omega)
theorem uk.ends {gs:List (List Rw)}(f:uk gs):∀ (d i:Nat) (a b:List Rw),gs[i]? = some a->gs[i+1+d]? = some b->ltK (mu a) (mu b)=true
 | 0,i,a,b,h1,h2=>by
  have g:=f.rise i a b h1 h2;obtain⟨k,j⟩:=f.good b (List.mem_of_getElem? h2);rcases af8 (p9 k) j with e|e
  .rw[<- e];exact g
  .exact lf g e
 | d+1,i,a,b,h1,h2=>by
  have l:=(List.getElem?_eq_some_iff.1 h2).1;obtain⟨c,h⟩:∃ c,gs[i+1+d]? = some c:=⟨_,List.getElem?_eq_getElem (by omega)⟩
  exact lf (f.ends d i a c h1 h) (f.ends 0 (i+1+d) c b h h2)
end Go.Proofs.YtjbmgghehdemdaaGreatDoor
