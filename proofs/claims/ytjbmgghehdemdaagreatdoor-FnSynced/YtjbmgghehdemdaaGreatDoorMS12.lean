/- Strs -/
import Derived.Test.YtjbmgghehdemdaaGreatDoorMS2
import Derived.Laws.DeepStrings4
import Derived.Laws.Concat
import Derived.Test.YtjbmgghehdemdaaGreatDoorMS7
import Derived.Lib.IndexLaws
import Derived.Lib.Bytealg
import Derived.WalkMore
namespace Go.Proofs.YtjbmgghehdemdaaGreatDoor
set_option maxRecDepth 100000
set_option maxHeartbeats 16000000
open _root_.Go.Proofs.Tryz
open Go.RowKit
theorem Pg:(prog.info? 9).map (fun i=>(i.zero,i.size,i.bytes))=some (some (.string ⟨#[]⟩),1,16):=by kernel_rfl
def ah (w:World) (B:Nat) (v:Value) (ss:List ByteArray):Prop:=w.ownsRow B 9 1 v ss.length (ss.map Value.string)
theorem ah.snoc {w:World} {base:Nat} {v:Value} {ss:List ByteArray} {x:ByteArray}(h:w.ownsRow base 9 1 v (ss.length+1) (ss.map Value.string++[.string x])):ah w base v (ss++[x]):=by
 unfold ah;simpa using h
theorem ah.form {w:World} {B:Nat} {v:Value} {ss:List ByteArray}(h:ah w B v ss):(v=.slice none 0 0/\ss=[])\/∃ g cap,v=.slice (some ⟨g,0,none⟩) ss.length cap/\ss.length<=cap/\cap<=maxLen:=by
 rcases h.2 with ⟨a,b⟩|⟨g,cap,f,a,b,c,d,e,_⟩
 .exact .inl ⟨a,by simpa using b⟩
 .exact .inr ⟨g,cap,a,d,e⟩
theorem ah.cell {w:World} {B:Nat} {g cap:Nat} {ss:List ByteArray}(h:ah w B (.slice (some ⟨g,0,none⟩) ss.length cap) ss) (j:Nat) (x:ByteArray) (a:ss[j]? = some x) :
  w.cell? ⟨g,j,none⟩=some (.string x):=by
 have b:=(List.getElem?_eq_some_iff.1 a).1;rw[World.ownsRow.cellAt h j (by omega)];simp[a]
theorem ah.below {w w':World} {B:Nat} {v:Value} {ss:List ByteArray}(h:ah w B v ss) (a:Below w.heap.size w w'):ah w' B v ss :=
 World.ownsRow.kept h (row:=none) ⟨a.os,a.tape,a.output,a.size,fun k hk _=>a.block k hk⟩ (by cases h:v.ownBlock <;> simp)
def wst (s:ByteArray):Nat->List ByteArray × ByteArray
 | 0=>([],⟨#[]⟩)
 | k+1 =>
  if k<s.size/\Dec.bt s k≠32 then ((wst s k).1,(wst s k).2++s.extract k (k+1))
  else ((if (wst s k).2.size=0 then (wst s k).1 else (wst s k).1++[(wst s k).2]),⟨#[]⟩)
def ub (s:ByteArray):List ByteArray:=(wst s (s.size+1)).1
theorem Mr (s:ByteArray) (k:Nat):(wst s k).1.length<=k/\(wst s k).2.size<=k:=by
 induction k with
 | zero=>exact⟨Nat.zero_le _,bR⟩
 | succ k ih =>
  unfold wst;split
  .rename_i h
   refine⟨by show (wst s k).1.length<=_;omega,?_⟩;show ((wst s k).2++s.extract k (k+1)).size<=_
   rw[ByteArray.size_append,ByteArray.size_extract];omega
  .refine⟨?_,Nat.zero_le _⟩
   show (if _ then _ else _:List ByteArray).length<=_
   split
   .omega
   .rw[List.length_append];simp;omega
def bh1 (w:World) (s:ByteArray) (out word i:Value) (wr:World):Prop :=
 ∃ (k:Nat) (os:List ByteArray) (cur:ByteArray),k<=s.size+1/\i=.int .i64 k/\wst s k=(os,cur)/\word=.string cur/\ah wr w.heap.size out os/\Below w.heap.size w wr
theorem Ea (c:ByteArray):c.toList.isEmpty=decide (c.size=0):=by
 rw[ByteArray.toList_eq];rcases c with ⟨⟨l⟩⟩
 cases l <;> simp[ByteArray.size]
theorem ad9 (s:ByteArray) (w:World) (Q:s.size<=1073741824) :
  Calls prog 53 #[.string s] w fun e w'=>∃ v,e=.returned v/\ah w' w.heap.size v (ub s)/\Below w.heap.size w w':=by
 obtain⟨F,E,A,B,C⟩:=info_parts Pg;go_enter func53,ntmps53;go_wp2;go_loopw [3,4,5] (fun out word i wr=>bh1 w s out word i wr) (fun _ _ i _=>s.size+1-(intOf i).toNat)
 case atStart=>exact⟨0,[],⟨#[]⟩,Nat.zero_le _,rfl,rfl,rfl,World.ownsRow_nil _ _ _ _,bX⟩
 case round =>
  obtain⟨k,n,d,P,rfl,y,rfl,f,m⟩:=hrel;have q:=Mr s k;rw[y]at q;have L:n.length<=k:=q.1;have M:d.size<=k:=q.2;have o:=hZ y;clear y q;unfold ah at f;by_cases N:k<=s.size
  .by_cases a:k<s.size/\Dec.bt s k≠32
   .obtain⟨a,b⟩:=a
    have g:Hid (Dec.bt s k=(s[k]'a).toNat):=(Dec.bt_get s k a).symm;have D:(((s[k]'a).toNat:Int) != 32)=true:=by rw[g.out]at b;simp;omega
    have l:Hid (wst s (k+1)=(n,d++s.extract k (k+1))):=by
     show _=_
     rw[wst,if_pos ⟨a,b⟩,o.out]
    clear b g o;go_wp2;exact⟨⟨k+1,_,_,by omega,by go_num,l.out,rfl,f,m⟩,by simp[intOf];omega⟩
   .have p:Hid (wst s (k+1)=((if d.size=0 then n else n++[d]),⟨#[]⟩)):=by
     show _=_
     rw[wst,if_neg a,o.out]
    clear o;have hd:k<s.size->Dec.bt s k=32:=fun h=>Decidable.byContradiction fun c=>a ⟨h,c⟩
    clear a;have z:=Ea d;by_cases b:d.size=0
    .rw[decide_eq_true b]at z
     have l:Hid (wst s (k+1)=(n,⟨#[]⟩)):=by show _=_;rw[p.out,if_pos b]
     clear p b;by_cases a:k<s.size
     .have g:=Dec.bt_get s k a
      rw[hd a]at g;have D:(((s[k]'a).toNat:Int) != 32)=false:=by simp;omega
      clear hd g;go_wp2;exact⟨⟨k+1,_,_,by omega,by go_num,l.out,rfl,f,m⟩,by simp[intOf];omega⟩
     .have I:¬ (k:Int)<(s.size:Int):=by omega
      clear hd;go_wp2;exact⟨⟨k+1,_,_,by omega,by go_num,l.out,rfl,f,m⟩,by simp[intOf];omega⟩
    .rw[decide_eq_false b]at z
     have l:Hid (wst s (k+1)=(n++[d],⟨#[]⟩)):=by show _=_;rw[p.out,if_neg b]
     have O:=m.size;clear p b;by_cases a:k<s.size
     .have g:=Dec.bt_get s k a
      rw[hd a]at g;have D:(((s[k]'a).toNat:Int) != 32)=false:=by simp;omega
      clear hd g;go_wp2_with (at_builtin;refine wpList_append_own _ rfl _ _ 23 rfl w.heap.size 9 F (.string ⟨#[]⟩) 1 16 underlying23 E A B C rfl (by decide) _ _ _ rfl (f.alloc _) ⟨_,0,none⟩ 1 1 [.string d] rfl rfl (cell_one_new _ _ _) (fun x hx=>by simp at hx;subst hx;rfl) (by unfold maxLen;omega) (by omega) (by simp;omega) ?_;intro J K u t _)
      have r:=Below.grown (m.alloc (by omega) _) t (by simp;omega) (fun j hj=>(f.lt _ hj).1);exact⟨⟨k+1,_,_,by omega,by go_num,l.out,rfl,ah.snoc u,r⟩,by simp[intOf];omega⟩
     .have I:¬ (k:Int)<(s.size:Int):=by omega
      clear hd;go_wp2_with (at_builtin;refine wpList_append_own _ rfl _ _ 23 rfl w.heap.size 9 F (.string ⟨#[]⟩) 1 16 underlying23 E A B C rfl (by decide) _ _ _ rfl (f.alloc _) ⟨_,0,none⟩ 1 1 [.string d] rfl rfl (cell_one_new _ _ _) (fun x hx=>by simp at hx;subst hx;rfl) (by unfold maxLen;omega) (by omega) (by simp;omega) ?_;intro J K u t _)
      have r:=Below.grown (m.alloc (by omega) _) t (by simp;omega) (fun j hj=>(f.lt _ hj).1);exact⟨⟨k+1,_,_,by omega,by go_num,l.out,rfl,ah.snoc u,r⟩,by simp[intOf];omega⟩
  .have G:k=s.size+1:=by omega
   subst G;have H:Hid (n=ub s):=by show _=_;unfold ub;rw[o.out]
   clear o;go_wp2;go_ret;exact⟨_,rfl,by rw[<- H.out];exact f,m⟩
def wf:List UInt8->List UInt8->List ByteArray
 | [],cur=>if cur=[] then [] else [⟨cur.toArray⟩]
 | b::l,cur=>if b=32 then (if cur=[] then wf l [] else ⟨cur.toArray⟩::wf l []) else wf l (cur++[b])
def dv (l:List UInt8):List UInt8 × List UInt8 :=
 ((l.dropWhile (· == 32)).takeWhile (· != 32),((l.dropWhile (· == 32)).dropWhile (· != 32)).drop 1)
theorem ba3 (a:List UInt8):wf [] a=if a=[] then [] else [⟨a.toArray⟩]:=rfl
theorem Fw (b:UInt8) (l a:List UInt8):wf (b::l) a=if b=32 then (if a=[] then wf l [] else ⟨a.toArray⟩::wf l []) else wf l (a++[b]):=rfl
theorem ba2 (l a:List UInt8) (h:a≠[]):wf l a=⟨(a++l.takeWhile (· != 32)).toArray⟩::wf ((l.dropWhile (· != 32)).drop 1) []:=by
 induction l generalizing a with
 | nil=>simp[wf,h]
 | cons b l ih =>
  rw[Fw];by_cases c:b=32
  .simp[c,h]
  .rw[if_neg c,ih (a++[b]) (by simp)]
   simp[c]
theorem Uz (l:List UInt8):wf l []=if (dv l).1=[] then [] else ⟨(dv l).1.toArray⟩::wf (dv l).2 []:=by
 induction l with
 | nil=>simp[wf,dv]
 | cons b l ih =>
  rw[Fw];by_cases a:b=32
  .have e:dv (b::l)=dv l:=by simp[dv,a]
   rw[if_pos a,if_pos rfl,e];exact ih
  .rw[if_neg a,ba2 l ([]++[b]) (by simp)]
   simp[dv,a]
theorem K2 (l:List UInt8):(dv l).1.length<=l.length/\(dv l).2.length<=l.length:=by
 unfold dv;have a:=(List.dropWhile_sublist (l:=l) (p:=fun x=>x == 32)).length_le;have b:=(List.takeWhile_sublist (l:=l.dropWhile (fun x=>x == 32)) (p:=fun x=>x != 32)).length_le;have c:=(List.dropWhile_sublist (l:=l.dropWhile (fun x=>x == 32)) (p:=fun x=>x != 32)).length_le;simp only[List.length_drop];omega
theorem as4 (s:ByteArray) (k:Nat) (a:k<s.size):(wst s k).1++wf (s.data.toList.drop k) (wst s k).2.data.toList=(wst s (k+1)).1++wf (s.data.toList.drop (k+1)) (wst s (k+1)).2.data.toList:=by
 have hd:s.data.toList.drop k=s.data.toList[k]'a::s.data.toList.drop (k+1):=List.drop_eq_getElem_cons a;have g:Dec.bt s k=(s.data.toList[k]'a).toNat:=by rw[<- Dec.bt_get s k a];rfl
 rw[hd];generalize hx:s.data.toList[k]'a=b at *;conv=>rhs;unfold wst
 by_cases c:b=32
 .have d:¬ (k<s.size/\Dec.bt s k≠32):=by rw[g,c];simp
  rw[if_neg d];simp only;rw[Fw,if_pos c];by_cases z:(wst s k).2.data.toList=[]
  .have f:(wst s k).2.size=0:=by show (wst s k).2.data.size=0;rw[<- Array.length_toList,z];rfl
   rw[if_pos z,if_pos f]
  .have f:¬ (wst s k).2.size=0:=fun e=>z (List.eq_nil_of_length_eq_zero (by rw[Array.length_toList];exact e))
   rw[if_neg z,if_neg f];simp
 .have d:k<s.size/\Dec.bt s k≠32:=⟨a,by
   rw[g];intro e;exact c (UInt8.toNat_inj.1 e)⟩
  rw[if_pos d];simp only;rw[Fw,if_neg c];congr 2
  rw[ByteArray.data_append,Array.toList_append,ByteArray.data_extract,Array.toList_extract];congr 1
  rw[List.extract_eq_take_drop,hd];simp
theorem as3 (s:ByteArray):ub s=wf s.data.toList []:=by
 have h:∀ k,k<=s.size->wf s.data.toList []=(wst s k).1++wf (s.data.toList.drop k) (wst s k).2.data.toList:=by
  intro k;induction k with
  | zero=>intro _;simp[wst]
  | succ k ih=>intro b;rw[ih (by omega),as4 s k (by omega)]
 rw[h s.size bR];have e:s.data.toList.drop s.size=[]:=List.drop_eq_nil_of_le (by simp);rw[e];unfold ub;conv=>lhs;unfold wst
 rw[if_neg (by omega)];rw[ba3];by_cases z:(wst s s.size).2.data.toList=[]
 .have a:(wst s s.size).2.size=0:=by show (wst s s.size).2.data.size=0;rw[<- Array.length_toList,z];rfl
  rw[if_pos z,if_pos a];simp
 .have a:¬ (wst s s.size).2.size=0:=fun e=>z (List.eq_nil_of_length_eq_zero (by rw[Array.length_toList];exact e))
  rw[if_neg z,if_neg a]
theorem Of:∀ (t:List UInt8),Lib.indexByte t 32=-1->t.takeWhile (· != 32)=t/\(t.dropWhile (· != 32)).drop 1=[]
 | [],_=>by simp
 | b::t,h=>by
  have n:=Lib.indexByte_none h;have a:b≠32:=fun e=>n 0 (by simp[e])
  unfold Lib.indexByte at h;have d:(b == 32)=false:=by simpa using a
  rw[d]at h;have i:Lib.indexByte t 32=-1:=by
   have g:=Lib.indexByte_ge t 32;by_cases c:Lib.indexByte t 32=-1
   .exact c
   .exfalso
    have f:(Lib.indexByte t 32 == -1)=false:=by simpa using c
    rw[f]at h;simp at h;omega
  obtain⟨j,k⟩:=Of t i;refine⟨?_,?_⟩
  .rw[List.takeWhile_cons];simp[a,j]
  .rw[List.dropWhile_cons];simp[a];simpa using k
theorem U8:∀ (t:List UInt8) (i:Nat),Lib.indexByte t 32=(i:Int)->i<t.length/\t.takeWhile (· != 32)=t.take i/\(t.dropWhile (· != 32)).drop 1=t.drop (i+1)
 | [],i,h=>by simp[Lib.indexByte]at h
 | b::t,i,h=>by
  unfold Lib.indexByte at h;by_cases a:b=32
  .have d:(b == 32)=true:=by simpa using a
   rw[d]at h;have:i=0:=by simpa using h.symm
   subst this;simp[a]
  .have d:(b == 32)=false:=by simpa using a
   rw[d]at h;have g:=Lib.indexByte_ge t 32;by_cases c:Lib.indexByte t 32=-1
   .rw[c]at h;simp at h
   .have e:(Lib.indexByte t 32 == -1)=false:=by simpa using c
    rw[e]at h;simp at h;obtain⟨j,rfl⟩:∃ j,i=j+1:=⟨i-1,by omega⟩
    obtain⟨l,f,k⟩:=U8 t j (by omega);refine⟨by simp;omega,?_,?_⟩
    .rw[List.takeWhile_cons];simp[a,f]
    .rw[List.dropWhile_cons];simp[a];simpa using k
structure Rw where
 key:ByteArray
 text:ByteArray
 val:ByteArray
def rwC (x:Rw):List Value:=[.string x.key,.string x.text,.string x.val]
def rwV (x:Rw):Value:=.agg #[.string x.key,.string x.text,.string x.val]
def fe (l:List Rw):List Value:=l.flatMap rwC
def rwZ:Rw:=⟨⟨#[]⟩,⟨#[]⟩,⟨#[]⟩⟩
instance : Inhabited Rw := ⟨rwZ⟩
theorem o6 (l:List Rw):(fe l).length=l.length*3:=by
 induction l with
 | nil=>rfl
 | cons e es ih=>show (rwC e++fe es).length=_;rw[List.length_append,ih,List.length_cons];show 3+_=_;omega
theorem zk (a b:List Rw):fe (a++b)=fe a++fe b:=by simp[fe]
theorem Ig (es:List Rw) (k i:Nat) (e:Rw) (h:es[k]? = some e) (hi:i<3):(fe es)[k*3+i]? = (rwC e)[i]?:=by
 induction es generalizing k with
 | nil=>simp at h
 | cons x es ih =>
  show (rwC x++fe es)[k*3+i]? = _
  cases k with
  | zero =>
   simp at h;subst h;rw[Nat.zero_mul,Nat.zero_add,List.getElem?_append_left (by show i<3;exact hi)]
  | succ k =>
   have b:es[k]? = some e:=by simpa using h
   rw[List.getElem?_append_right (by show 3<=_;omega)];have a:(k+1)*3+i-(rwC x).length=k*3+i:=by show (k+1)*3+i-3=_;omega
   rw[a];exact ih k b
theorem ab7 (es:List Rw) (k:Nat) (e:Rw) (h:k<es.length):fe (es.set k e)=(((fe es).set (k*3) (.string e.key)).set (k*3+1) (.string e.text)).set (k*3+2) (.string e.val):=by
 induction es generalizing k with
 | nil=>simp at h
 | cons x es ih =>
  cases k with
  | zero=>rfl
  | succ k =>
   have a:k<es.length:=by simpa using h
   show rwC x++fe (es.set k e)=(((rwC x++fe es).set ((k+1)*3) _).set ((k+1)*3+1) _).set ((k+1)*3+2) _
   rw[ih k a,List.set_append_right _ _ (by show 3<=_;omega),List.set_append_right _ _ (by show 3<=_;omega),List.set_append_right _ _ (by show 3<=_;omega)];have b:(k+1)*3-(rwC x).length=k*3:=by show (k+1)*3-3=_;omega
   have q1:(k+1)*3+1-(rwC x).length=k*3+1:=by show (k+1)*3+1-3=_;omega
   have q2:(k+1)*3+2-(rwC x).length=k*3+2:=by show (k+1)*3+2-3=_;omega
   rw[b,q1,q2]
def Rws (w:World) (B:Nat) (v:Value) (l:List Rw):Prop:=w.ownsRow B 37 3 v l.length (fe l)
theorem Rws.form {w:World} {B:Nat} {v:Value} {es:List Rw}(h:Rws w B v es):(v=.slice none 0 0/\es=[])\/∃ g cap,v=.slice (some ⟨g,0,none⟩) es.length cap/\es.length<=cap/\cap<=maxLen:=by
 rcases h.2 with ⟨a,b⟩|⟨g,cap,f,a,b,c,d,e,_⟩
 .exact .inl ⟨a,List.eq_nil_of_length_eq_zero b⟩
 .exact .inr ⟨g,cap,a,d,e⟩
theorem Rws.cells {w:World} {B g cap:Nat} {es:List Rw}(h:Rws w B (.slice (some ⟨g,0,none⟩) es.length cap) es) (k:Nat) (e:Rw) (b:es[k]? = some e) :
  w.cell? ⟨g,k*3,none⟩=some (.string e.key)/\w.cell? ⟨g,k*3+1,none⟩=some (.string e.text)/\w.cell? ⟨g,k*3+2,none⟩=some (.string e.val):=by
 have c:=(List.getElem?_eq_some_iff.1 b).1;have a:∀ i,i<3->w.cell? ⟨g,k*3+i,none⟩=(rwC e)[i]?:=fun i hi=>by
  rw[World.ownsRow.cellAt h (k*3+i) (by omega),Ig es k i e b hi]
 exact⟨a 0 (by omega),a 1 (by omega),a 2 (by omega)⟩
theorem Rws.below {w w':World} {B:Nat} {v:Value} {es:List Rw}(h:Rws w B v es) (a:Below w.heap.size w w'):Rws w' B v es :=
 World.ownsRow.kept h (row:=none) ⟨a.os,a.tape,a.output,a.size,fun k hk _=>a.block k hk⟩ (by cases h:v.ownBlock <;> simp)
def dc (w:World) (a:Option Addr) (l:List Rw):Prop :=
 l=[]\/∃ b o,a=some ⟨b,o,none⟩/\∀ (k:Nat) (e:Rw),l[k]? = some e->w.cell? ⟨b,o+k*3,none⟩=some (.string e.key)/\w.cell? ⟨b,o+k*3+1,none⟩=some (.string e.text)/\w.cell? ⟨b,o+k*3+2,none⟩=some (.string e.val)
theorem ag {w:World} {b o:Nat} {v:Value}(h:w.cell? ⟨b,o,none⟩=some v):b<w.heap.size:=by
 apply Classical.byContradiction
 intro a;have:w.heap[b]? = none:=by simp;omega
 simp[World.cell?,this]at h
theorem dc.below {w w':World} {B:Nat} {a:Option Addr} {l:List Rw}(h:dc w a l) (c:Below B w w') (j:w.heap.size<=B):dc w' a l:=by
 rcases h with rfl|⟨b,o,rfl,h⟩
 .exact .inl rfl
 .refine .inr ⟨b,o,rfl,fun k e he=>?_⟩
  obtain⟨f,g,i⟩:=h k e he;have d:=Nat.lt_of_lt_of_le (ag f) j;exact⟨by rw[c.cell d];exact f,by rw[c.cell d];exact g,by rw[c.cell d];exact i⟩
theorem Rws.sl {w:World} {B g cap:Nat} {l:List Rw}(h:Rws w B (.slice (some ⟨g,0,none⟩) l.length cap) l):dc w (some ⟨g,0,none⟩) l :=
 .inr ⟨g,0,rfl,fun k e he=>by simpa using h.cells k e he⟩
theorem dc.drop {w:World} {b o:Nat} {l:List Rw}(h:dc w (some ⟨b,o,none⟩) l) (n:Nat):dc w (some ⟨b,o+n*3,none⟩) (l.drop n):=by
 rcases h with rfl|⟨c,d,a,h⟩
 .exact .inl (by simp)
 .cases a
  refine .inr ⟨b,o+n*3,rfl,fun k e he=>?_⟩;rw[List.getElem?_drop]at he;have:=h (n+k) e he;rw[show o+(n+k)*3=o+n*3+k*3 by omega]at this;exact this
theorem dc.take {w:World} {a:Option Addr} {l:List Rw}(h:dc w a l) (n:Nat):dc w a (l.take n):=by
 rcases h with rfl|⟨b,d,c,h⟩
 .exact .inl (by simp)
 .refine .inr ⟨b,d,c,fun k e he=>h k e ?_⟩
  rw[List.getElem?_take]at he;split at he
  .exact he
  .cases he
theorem b19 {l:List Rw} {k:Nat} {x:Rw}(h:l[k]? = some x):l.drop k=x::l.drop (k+1):=by
 obtain⟨a,rfl⟩:=List.getElem?_eq_some_iff.1 h;exact List.drop_eq_getElem_cons a
def sz1 (x:Rw):Bool:=decide (x.key.size<=200) && decide (x.text.size<=80) && decide (x.val.size<=80)
def ltK (a b:ByteArray):Bool:=Op.bytesLess a.toList b.toList
def dr (l:List Rw) (i:Nat):Rw:=(l[i]?).getD rwZ
def mo (l:List Rw) (i:Nat):Bool:=sz1 (dr l i) && (i == 0 || ltK (dr l (i-1)).key (dr l i).key)
def da (l:List Rw):Bool:=decide (l.length<=60) && (List.range l.length).all (mo l)
theorem Jm {l:List Rw}(h:¬ l.length<=60):da l=false:=by simp[da,h]
theorem nw {l:List Rw} {k:Nat}(a:k<l.length) (h:mo l k=false):da l=false:=by
 unfold da;have:(List.range l.length).all (mo l)=false:=by
  rw[List.all_eq_false];exact⟨k,by simpa using a,by simp[h]⟩
 rw[this,Bool.and_false]
theorem wj {l:List Rw}(h:l.length<=60) (a:∀ i,i<l.length->mo l i=true):da l=true:=by
 unfold da;have:(List.range l.length).all (mo l)=true:=by
  rw[List.all_eq_true];intro i b;exact a i (by simpa using b)
 rw[this];simp[h]
theorem mj {l:List Rw}(h:da l=true):l.length<=60:=by
 unfold da at h;simp at h;exact h.1
theorem yx {l:List Rw}(h:da l=true){i:Nat}(hi:i<l.length):mo l i=true:=by
 unfold da at h;simp at h;exact h.2 i hi
theorem Md {l:List Rw} {x:Rw}(a:l[0]? = some x):mo l 0=sz1 x:=by
 simp[mo,dr,a]
theorem Mc {l:List Rw} {j:Nat} {x y:Rw}(a:l[j+1]? = some x) (b:l[j]? = some y):mo l (j+1)=(sz1 x && ltK y.key x.key):=by
 simp[mo,dr,a,b]
theorem yg {l:List Rw} {k:Nat} {x:Rw}(a:l[k]? = some x) (h:sz1 x=false):mo l k=false:=by
 simp[mo,dr,a,h]
theorem Ik {x:Rw}(h0:x.key.size<=200) (h1:x.text.size<=80) (h2:x.val.size<=80):sz1 x=true:=by simp[sz1,h0,h1,h2]
theorem Ux {x:Rw}(h0:¬ x.key.size<=200):sz1 x=false:=by simp[sz1,h0]
theorem Ra {x:Rw}(h0:¬ x.text.size<=80):sz1 x=false:=by simp[sz1,h0]
theorem Uy {x:Rw}(h0:¬ x.val.size<=80):sz1 x=false:=by simp[sz1,h0]
theorem ad1 {x:Rw}(h:sz1 x=true):x.key.size<=200/\x.text.size<=80/\x.val.size<=80:=by
 simp[sz1]at h
 exact⟨h.1.1,h.1.2,h.2⟩
theorem Oz {l:List Rw}(h:da l=true):∀ x ∈ l,x.key.size<=200/\x.text.size<=80/\x.val.size<=80:=by
 intro x b;obtain⟨i,a⟩:=List.getElem?_of_mem b;have:=yx h (List.getElem?_eq_some_iff.1 a).1;unfold mo dr at this;rw[a]at this;simp only[Option.getD_some,Bool.and_eq_true]at this;exact ad1 this.1
theorem A0 {l:List Rw} {k:Nat}(h:∀ j,j<k->mo l j=true) (a:mo l k=true):∀ j,j<k+1->mo l j=true:=by
 intro j b;by_cases e:j=k
 .rw[e];exact a
 .exact h j (by omega)
def shL:List UInt8->List UInt8->Nat
 | a::x,b::y=>if a=b then shL x y+1 else 0
 | _,_=>0
def shB (a k:ByteArray):Nat:=shL a.data.toList k.data.toList
theorem Ut:∀ (x y:List UInt8),shL x y<=x.length
 | [],y=>by cases y <;> simp[shL]
 | a::x,[]=>by simp[shL]
 | a::x,b::y=>by
  unfold shL;split
  .have:=Ut x y
   simp;omega
  .simp
theorem Uu:∀ (x y:List UInt8),shL x y<=y.length
 | [],y=>by cases y <;> simp[shL]
 | a::x,[]=>by simp[shL]
 | a::x,b::y=>by
  unfold shL;split
  .have:=Uu x y
   simp;omega
  .simp
theorem Fu (a k:ByteArray):shB a k<=a.size:=by
 have:=Ut a.data.toList k.data.toList;rw[Array.length_toList]at this;exact this
theorem Fv (a k:ByteArray):shB a k<=k.size:=by
 have:=Uu a.data.toList k.data.toList;rw[Array.length_toList]at this;exact this
theorem Qn (x y:List UInt8) (h:x=[]):shL x y=0:=by subst h;cases y <;> rfl
theorem Qo (x y:List UInt8) (h:y=[]):shL x y=0:=by subst h;cases x <;> rfl
def bAt (s:ByteArray) (n:Nat):UInt8:=s.data.toList.getD n 0
theorem p8 {s:ByteArray} {n:Nat}(h:n<s.size):s.data.toList.drop n=bAt s n::s.data.toList.drop (n+1):=by
 have a:n<s.data.toList.length:=by rw[Array.length_toList];exact h
 rw[List.drop_eq_getElem_cons a,bAt,List.getD,List.getElem?_eq_getElem a];rfl
theorem zu {s:ByteArray} {n:Nat}(h:¬ n<s.size):s.data.toList.drop n=[]:=by
 apply List.drop_eq_nil_of_le
 rw[Array.length_toList];exact Nat.le_of_not_lt h
def bI (s:ByteArray):List Int:=s.data.toList.map fun b=>(b.toNat:Int)
theorem Bc (s:ByteArray):(bI s).length=s.size:=by
 unfold bI;rw[List.length_map,Array.length_toList];rfl
theorem Lg (a b:ByteArray):bI (a++b)=bI a++bI b:=by
 unfold bI;rw[<- List.map_append];congr 1
def byT (bs:List Int):ByteArray:=⟨(bs.map fun x=>x.toNat.toUInt8).toArray⟩
theorem rg (bs:List Int):(byT bs).size=bs.length:=by
 show (byT bs).data.size=_
 simp[byT]
theorem O5 (s:ByteArray):byT (bI s)=s:=by
 unfold byT bI;rw[List.map_map];have:((fun x:Int=>x.toNat.toUInt8) ∘ fun b:UInt8=>(b.toNat:Int))=id:=by
  funext b
  simp
 rw[this,List.map_id]
def jp (p:ByteArray) (x:Rw):List Int :=
 [(shB p x.key:Int),(x.key.size:Int)-(shB p x.key:Int),(x.text.size:Int),(x.val.size:Int)]++bI (x.key.extract (shB p x.key) x.key.size)++bI x.text++bI x.val
def fd:ByteArray->List Rw->List Int
 | _,[]=>[]
 | p,x::l=>jp p x++fd x.key l
def ft:ByteArray->List Rw->ByteArray
 | p,[]=>p
 | _,x::l=>ft x.key l
def fi (l:List Rw):List Int:=[80,71,(l.length:Int)]++fd ⟨#[]⟩ l
theorem D4:∀ (p:ByteArray) (l:List Rw) (x:Rw),fd p (l++[x])=fd p l++jp (ft p l) x
 | p,[],x=>by simp[fd,ft]
 | p,y::l,x=>by
  show jp p y++fd y.key (l++[x])=jp p y++fd y.key l++jp (ft y.key l) x
  rw[D4 y.key l x,List.append_assoc]
theorem Jy:∀ (p:ByteArray) (l:List Rw) (x:Rw),ft p (l++[x])=x.key
 | _,[],_=>rfl
 | _,y::l,x=>Jy y.key l x
theorem D6 {l:List Rw} {k:Nat} {x:Rw}(p:ByteArray) (h:l[k]? = some x):fd p (l.take (k+1))=fd p (l.take k)++jp (ft p (l.take k)) x:=by
 rw[List.take_add_one,h];exact D4 p _ x
theorem xq {l:List Rw} {k:Nat} {x:Rw}(p:ByteArray) (h:l[k]? = some x):ft p (l.take (k+1))=x.key:=by
 rw[List.take_add_one,h];exact Jy p _ x
theorem yv (s:ByteArray) (n:Nat) (_h:n<=s.size):(s.extract n s.size).size=s.size-n:=by
 simp
theorem ul (p:ByteArray) (x:Rw):((jp p x).length:Int)=4+(x.key.size:Int)-(shB p x.key:Int)+(x.text.size:Int)+(x.val.size:Int):=by
 have h:=Fv p x.key;unfold jp;simp only[List.length_append,Bc,yv _ _ h,List.length_cons,List.length_nil];omega
def RwB (l:List Rw):Prop:=l.length<=255/\∀ x ∈ l,x.key.size<=255/\x.text.size<=255/\x.val.size<=255
theorem RwB.at {l:List Rw}(h:RwB l){k:Nat} {x:Rw}(a:l[k]? = some x):x.key.size<=255/\x.text.size<=255/\x.val.size<=255:=h.2 x (List.mem_of_getElem? a)
theorem ph {l:List Rw}(h:da l=true):RwB l:=by
 refine⟨by have:=mj h;omega,fun x hx=>?_⟩;have:=Oz h x hx;omega
theorem Ay {p:ByteArray} {x:Rw}(h:x.key.size<=255/\x.text.size<=255/\x.val.size<=255):(jp p x).length<=769:=by
 have:=ul p x;omega
theorem zi:∀ (p:ByteArray) (l:List Rw),(∀ x ∈ l,x.key.size<=255/\x.text.size<=255/\x.val.size<=255)->(fd p l).length<=769*l.length
 | _,[],_=>by simp[fd]
 | p,x::l,h=>by
  have h1:=Ay (p:=p) (h x (by simp));have a:=zi x.key l (fun y hy=>h y (by simp[hy]));simp only[fd,List.length_append,List.length_cons];omega
theorem Pn:∀ (p:ByteArray) (l:List Rw),p.size<=255->(∀ x ∈ l,x.key.size<=255/\x.text.size<=255/\x.val.size<=255)->(ft p l).size<=255
 | p,[],h,_=>h
 | p,x::l,_,h=>Pn x.key l (h x (by simp)).1 (fun y hy=>h y (by simp[hy]))
theorem Ma {l:List Rw} {k:Nat}(h:∀ x ∈ l,x.key.size<=255/\x.text.size<=255/\x.val.size<=255):∀ x ∈ l.take k,x.key.size<=255/\x.text.size<=255/\x.val.size<=255 :=
 fun x hx=>h x (List.mem_of_mem_take hx)
theorem uz {l:List Rw}(h:RwB l) (k:Nat):(fd ⟨#[]⟩ (l.take k)).length<=196095:=by
 have a:=zi ⟨#[]⟩ (l.take k) (Ma h.2);have b:(l.take k).length<=255:=by rw[List.length_take];have:=h.1;omega
 omega
theorem qx {l:List Rw}(h:RwB l) (k:Nat):(ft ⟨#[]⟩ (l.take k)).size<=255:=Pn _ _ (Nat.zero_le _) (Ma h.2)
theorem Dd (l:List Rw):l.take l.length=l:=by simp
def io (l:List Rw):Bool:=!(l.length == 0) && da l && decide ((fi l).length<=300)
def pbT (l:List Rw):ByteArray:=if io l then byT (fi l) else ⟨#[]⟩
def hd (t:ByteArray) (i:Nat):Nat:=(bAt t i).toNat
theorem jy (t:ByteArray) (i:Nat):hd t i<256:=(bAt t i).toNat_lt
def ox (p t:ByteArray):Bool:=decide (4<=t.size) && decide (hd t 0<=p.size) && decide (4+hd t 1+hd t 2+hd t 3<=t.size)
def mi (p t:ByteArray):Rw:=⟨p.extract 0 (hd t 0)++t.extract 4 (4+hd t 1),t.extract (4+hd t 1) (4+hd t 1+hd t 2),t.extract (4+hd t 1+hd t 2) (4+hd t 1+hd t 2+hd t 3)⟩
def lp (t:ByteArray):ByteArray:=t.extract (4+hd t 1+hd t 2+hd t 3) t.size
def rdF:Nat->ByteArray->ByteArray->Option (List Rw)
 | 0,_,_=>some []
 | k+1,p,t=>if ox p t then (rdF k (mi p t).key (lp t)).map (mi p t::·) else none
theorem gk (s:ByteArray){a q:Nat}(h:q<=s.size):(s.extract a q).size=q-a:=by simp[ByteArray.size_extract];omega
theorem yu (s:ByteArray) (a q:Nat):(s.extract a q).data=s.data.extract a q:=by simp
theorem ry (s:ByteArray){a q i j:Nat}(_hq:q<=s.size) (b:a+j<=q):(s.extract a q).extract i j=s.extract (a+i) (a+j):=by
 apply ByteArray.ext
 rw[yu,yu,yu,Array.extract_extract];congr 1
 omega
theorem Bb (s:ByteArray){a q i:Nat}(d:q<=s.size) (hi:a+i<q):bAt (s.extract a q) i=bAt s (a+i):=by
 unfold bAt;rw[yu];have e:s.data.size=s.size:=rfl;have b:i<(s.data.extract a q).size:=by rw[Array.size_extract];omega
 have c:a+i<s.data.size:=by omega
 simp only[List.getD,Array.getElem?_toList,Array.getElem?_eq_getElem b,Array.getElem?_eq_getElem c,Array.getElem_extract]
theorem ut {p t:ByteArray}(h:ox p t=true):4<=t.size/\hd t 0<=p.size/\4+hd t 1+hd t 2+hd t 3<=t.size:=by
 simp[ox]at h
 exact⟨h.1.1,h.1.2,h.2⟩
theorem Tk {p t:ByteArray}(h:ox p t=true):(mi p t).key.size=hd t 0+hd t 1/\(mi p t).text.size=hd t 2/\(mi p t).val.size=hd t 3:=by
 obtain⟨b,a,c⟩:=ut h;refine⟨?_,?_,?_⟩
 .show (p.extract 0 (hd t 0)++t.extract 4 (4+hd t 1)).size=_
  rw[ByteArray.size_append,gk p a,gk t (by omega)];omega
 .show (t.extract _ _).size=_
  rw[gk t (by omega)];omega
 .show (t.extract _ _).size=_
  rw[gk t (by omega)];omega
theorem Tj {p t:ByteArray}(h:ox p t=true):(lp t).size+4<=t.size:=by
 obtain⟨a,b,c⟩:=ut h;unfold lp;rw[gk t bR];omega
def lf1 (t:ByteArray):ByteArray:=t.extract 4 t.size
def lf2 (t:ByteArray):ByteArray:=(lf1 t).extract (hd t 1) (lf1 t).size
def lf3 (t:ByteArray):ByteArray:=(lf2 t).extract (hd t 2) (lf2 t).size
theorem Ho (t:ByteArray){a k:Nat}(b:a+k<=t.size):(t.extract a t.size).extract k (t.extract a t.size).size=t.extract (a+k) t.size:=by
 rw[gk t bR,ry t bR (by omega)];congr 1
 omega
theorem Pp {t:ByteArray}:(lf1 t).size=t.size-4:=gk t bR
theorem Pq {t:ByteArray}(h:4+hd t 1<=t.size):lf2 t=t.extract (4+hd t 1) t.size:=Ho t h
theorem Pr {t:ByteArray}(h:4+hd t 1<=t.size):(lf2 t).size=t.size-(4+hd t 1):=by rw[Pq h];exact gk t bR
theorem Ps {t:ByteArray}(h:4+hd t 1+hd t 2<=t.size):lf3 t=t.extract (4+hd t 1+hd t 2) t.size:=by
 unfold lf3;rw[Pq (by omega)];exact Ho t h
theorem Pt {t:ByteArray}(h:4+hd t 1+hd t 2<=t.size):(lf3 t).size=t.size-(4+hd t 1+hd t 2):=by rw[Ps h];exact gk t bR
theorem aa9 {p t:ByteArray}(h:ox p t=true):mi p t=⟨p.extract 0 (hd t 0)++(lf1 t).extract 0 (hd t 1),(lf2 t).extract 0 (hd t 2),(lf3 t).extract 0 (hd t 3)⟩/\lp t=(lf3 t).extract (hd t 3) (lf3 t).size:=by
 obtain⟨e,f,g⟩:=ut h;have a:(lf1 t).extract 0 (hd t 1)=t.extract 4 (4+hd t 1):=ry t bR (by omega);have b:(lf2 t).extract 0 (hd t 2)=t.extract (4+hd t 1) (4+hd t 1+hd t 2):=by rw[Pq (by omega)];exact ry t bR (by omega)
 have c:(lf3 t).extract 0 (hd t 3)=t.extract (4+hd t 1+hd t 2) (4+hd t 1+hd t 2+hd t 3):=by rw[Ps (by omega)];exact ry t bR (by omega)
 have d:(lf3 t).extract (hd t 3) (lf3 t).size=lp t:=by rw[Ps (by omega)];exact Ho t (by omega)
 rw[a,b,c,d];exact⟨rfl,rfl⟩
def mn (s:ByteArray):Bool:=decide (hd s 0=80) && decide (hd s 1=71)
def li (s:ByteArray) (l:List Rw):Bool:=!(l.length == 0) && da l && decide (byT (fi l)=s)
def fu (s:ByteArray):Option (List Rw):=match rdF (hd s 2) ⟨#[]⟩ (s.extract 3 s.size) with
 | none=>none
 | some l=>if li s l then some l else none
def mu (s:ByteArray):Bool:=decide (3<=s.size) && decide (s.size<=300)
def am (s:ByteArray):List Rw:=if mu s && mn s then (fu s).getD [] else []
def dj (s:ByteArray):Int:=if mu s then (if mn s then (if (fu s).isSome then 0 else 3) else 2) else 1
theorem b86 {s:ByteArray} {l:List Rw}(a:3<=s.size) (h:s.size<=300):decide (pbT l=s)=li s l:=by
 unfold pbT li
 cases hok:io l
 .have c:¬ (⟨#[]⟩:ByteArray)=s:=fun e=>by rw[<- e]at a;exact absurd a (by decide)
  rw[if_neg (by simp),decide_eq_false c];unfold io at hok;by_cases b:byT (fi l)=s
  .have d:(fi l).length<=300:=by rw[<- rg,b];exact h
   rw[decide_eq_true d,Bool.and_true]at hok;rw[hok,Bool.false_and]
  .rw[decide_eq_false b,Bool.and_false]
 .rw[if_pos rfl]
  unfold io at hok;rw[Bool.and_eq_true]at hok;rw[hok.1,Bool.true_and]
theorem A4 (s:ByteArray):(am s).length<=60:=by
 unfold am;split
 .unfold fu
  split
  .exact Nat.zero_le _
  .rename_i l h
   split
   .rename_i hp
    unfold li at hp;rw[Bool.and_eq_true,Bool.and_eq_true]at hp;exact mj hp.1.2
   .exact Nat.zero_le _
 .exact Nat.zero_le _
def lnP (l:List Rw):Nat:=(fi l).length
theorem Bm (l:List Rw):lnP l=3+(fd ⟨#[]⟩ l).length:=by
 unfold lnP fi;rw[List.length_append];rfl
theorem Hz (l:List Rw) (x:Rw):lnP (l++[x])=lnP l+(jp (ft ⟨#[]⟩ l) x).length:=by
 rw[Bm,Bm,D4,List.length_append];omega
theorem az3:lnP []=3:=rfl
theorem b22 (k:ByteArray):shB ⟨#[]⟩ k=0:=by
 have:=Fu ⟨#[]⟩ k;have h:(⟨#[]⟩:ByteArray).size=0:=rfl;omega
theorem Jx:∀ (p:ByteArray) (q:List Rw),(ft p q).size<=p.size+(fd p q).length
 | p,[]=>Nat.le_add_right _ _
 | p,x::q=>by
  have h:=Jx x.key q;have a:=ul p x;have b:=Fu p x.key;show (ft x.key q).size<=p.size+(jp p x++fd x.key q).length
  rw[List.length_append];omega
theorem a76 (q:List Rw) (x:Rw):lnP [x]<=lnP (q++[x]):=by
 have a:=ul (⟨#[]⟩:ByteArray) x;have d:=ul (ft ⟨#[]⟩ q) x;have e:=Jx ⟨#[]⟩ q;have f:=Fu (ft ⟨#[]⟩ q) x.key;have b:=Hz [] x;have c:ft ⟨#[]⟩ []=(⟨#[]⟩:ByteArray):=rfl;have g:(⟨#[]⟩:ByteArray).size=0:=rfl;have h:=Hz q x;have i:=Bm q;rw[List.nil_append,az3,c]at b;rw[b22]at a;omega
theorem Eh {l:List Rw}(h:RwB l):lnP l<=196098:=by
 rw[Bm];have a:=zi ⟨#[]⟩ l h.2;have b:=h.1;omega
def wn (l:List Rw) (lim:Nat):Nat:=((List.range l.length).find? fun k=>decide (lim<lnP (l.take (k+1)))).getD l.length
theorem bg5 {l:List Rw} {a k:Nat}(b:k<l.length) (h:∀ j,j<k->lnP (l.take (j+1))<=a) (h1:a<lnP (l.take (k+1))):wn l a=k:=by
 unfold wn;have:(List.range l.length).find? (fun k=>decide (a<lnP (l.take (k+1))))=some k:=by
  rw[List.find?_eq_some_iff_getElem];refine⟨by simpa using h1,k,by simpa using b,by simp,fun j hj=>?_⟩;have:=h j hj;simp
  omega
 rw[this];rfl
theorem ba4 {l:List Rw} {a:Nat}(h:∀ j,j<l.length->lnP (l.take (j+1))<=a):wn l a=l.length:=by
 unfold wn;have:(List.range l.length).find? (fun k=>decide (a<lnP (l.take (k+1))))=none:=by
  rw[List.find?_eq_none];intro j b;have:=h j (by simpa using b);simp
  omega
 rw[this];rfl
theorem Zc (l:List Rw) (a:Nat):wn l a<=l.length/\(∀ j,j<wn l a->lnP (l.take (j+1))<=a)/\(wn l a<l.length->a<lnP (l.take (wn l a+1))):=by
 cases h:(List.range l.length).find? (fun k=>decide (a<lnP (l.take (k+1)))) with
 | none =>
  have b:wn l a=l.length:=by unfold wn;rw[h];rfl
  rw[b];refine⟨bR,fun j hj=>?_,fun c=>absurd c (Nat.lt_irrefl _)⟩;rw[List.find?_eq_none]at h;have:=h j (by simpa using hj);simp at this;exact this
 | some k =>
  have b:wn l a=k:=by unfold wn;rw[h];rfl
  rw[b];rw[List.find?_eq_some_iff_getElem]at h;obtain⟨e,i,g,d,f⟩:=h;simp at d g e;subst d;refine⟨by omega,fun j hj=>?_,fun _=>e⟩;have:=f j hj;simp at this;exact this
def qm (acc:List (List Rw)) (l:List Rw):Option (List (List Rw)) :=
 if _h:l.length=0 then some acc
 else if _h1:wn l 300=0\/acc.length=40 then none
 else qm (acc++[l.take (wn l 300)]) (l.drop (wn l 300))
termination_by l.length
decreasing_by
 rw[List.length_drop];omega
theorem yr {acc:List (List Rw)} {l:List Rw}(h:l.length=0):qm acc l=some acc:=by rw[qm,dif_pos h]
theorem yb {acc:List (List Rw)} {l:List Rw}(h:l.length≠0) (h1:wn l 300=0\/acc.length=40):qm acc l=none:=by rw[qm,dif_neg h,dif_pos h1]
theorem Hl {acc:List (List Rw)} {l:List Rw}(h:l.length≠0) (h1:¬ wn l 300=0) (h2:¬ acc.length=40):qm acc l=qm (acc++[l.take (wn l 300)]) (l.drop (wn l 300)):=by
 rw[qm,dif_neg h,dif_neg (fun c=>c.elim h1 h2)]
def scF:List (List Rw)->List Rw->Option (List (List Rw))
 | out,[]=>some out
 | out,x::l =>
  if 300<lnP [x] then none
  else match out.getLast? with
   | none=>scF (out++[[x]]) l
   | some p=>if lnP (p++[x])<=300 then scF (out.dropLast++[p++[x]]) l else scF (out++[[x]]) l
theorem zl {out:List (List Rw)} {l:List Rw} {x:Rw}(h:300<lnP [x]):scF out (x::l)=none:=by rw[scF,if_pos h]
theorem Aa {l:List Rw} {x:Rw}(h:¬ 300<lnP [x]):scF [] (x::l)=scF [[x]] l:=by rw[scF,if_neg h];rfl
theorem zm {out:List (List Rw)} {p l:List Rw} {x:Rw}(h:¬ 300<lnP [x]) (h1:lnP (p++[x])<=300):scF (out++[p]) (x::l)=scF (out++[p++[x]]) l:=by
 rw[scF,if_neg h];simp[h1]
theorem Bt {out:List (List Rw)} {p l:List Rw} {x:Rw}(h:¬ 300<lnP [x]) (h1:¬ lnP (p++[x])<=300):scF (out++[p]) (x::l)=scF (out++[p]++[[x]]) l:=by
 rw[scF,if_neg h];simp[h1]
theorem b20 (l:List Rw):∀ (out r:List (List Rw)),scF out l=some r->out.length<=r.length:=by
 induction l with
 | nil =>
  intro out r h;have c:some out=some r:=h
  cases c
  exact bR
 | cons x l ih =>
  intro out r h;by_cases a:300<lnP [x]
  .rw[zl a]at h;cases h
  .cases hg:out.getLast? with
   | none =>
    obtain rfl:out=[]:=List.getLast?_eq_none_iff.1 hg;exact Nat.zero_le _
   | some p =>
    obtain⟨o,rfl⟩:∃ o,out=o++[p]:=List.getLast?_eq_some_iff.1 hg
    by_cases b:lnP (p++[x])<=300
    .rw[zm a b]at h
     have:=ih _ _ h;simp at this ⊢;omega
    .rw[Bt a b]at h
     have:=ih _ _ h;simp at this ⊢;omega
def xm:Option (List (List Rw))->Option (List (List Rw))
 | none=>none
 | some r=>if r.length<=40 then some r else none
theorem Qm (out:List (List Rw)):∀ (m:Nat) (p l:List Rw),m<=l.length->(∀ j,j<m->lnP (p++l.take (j+1))<=300)->scF (out++[p]) l=scF (out++[p++l.take m]) (l.drop m)
 | 0,p,l,_,_=>by simp
 | m+1,p,[],h,_=>by simp at h
 | m+1,p,x::l,h,hj=>by
  have h1:lnP (p++[x])<=300:=by simpa using hj 0 (by omega)
  have a:¬ 300<lnP [x]:=by have:=a76 p x;omega
  rw[zm a h1,Qm out m (p++[x]) l (by simpa using h) (fun j hjm=>?_)]
  .simp
  .have:=hj (j+1) (by omega)
   simpa using this
theorem Og:∀ (n:Nat) (l:List Rw) (out:List (List Rw)),l.length<=n->out.length<=40->(∀ p x,out.getLast? = some p->l.head? = some x->¬ lnP (p++[x])<=300)->qm out l=xm (scF out l)
 | 0,l,out,hn,ho,_=>by
  obtain rfl:l=[]:=List.eq_nil_of_length_eq_zero (by omega);rw[yr rfl];show some out=if out.length<=40 then some out else none
  rw[if_pos ho]
 | n+1,l,out,hn,ho,hi=>by
  cases l with
  | nil =>
   rw[yr rfl];show some out=if out.length<=40 then some out else none
   rw[if_pos ho]
  | cons x l =>
   obtain⟨w1,w2,w3⟩:=Zc (x::l) 300;by_cases a:wn (x::l) 300=0
   .rw[yb (by simp) (.inl a)]
    have:=w3 (by rw[a];simp);rw[a]at this;rw[zl (by simpa using this)];rfl
   .obtain⟨m,d⟩:∃ m,wn (x::l) 300=m+1:=⟨wn (x::l) 300-1,by omega⟩
    rw[d]at w1 w2 w3;have e:¬ 300<lnP [x]:=by have:=w2 0 (by omega);simp at this;omega
    have c:scF out (x::l)=scF (out++[(x::l).take (m+1)]) ((x::l).drop (m+1)):=by
     have h:scF out (x::l)=scF (out++[[x]]) l:=by
      cases hg:out.getLast? with
      | none =>
       obtain rfl:out=[]:=List.getLast?_eq_none_iff.1 hg;exact Aa e
      | some p =>
       obtain⟨i,rfl⟩:∃ o,out=o++[p]:=List.getLast?_eq_some_iff.1 hg
       exact Bt e (hi p x hg rfl)
     rw[h,Qm out m [x] l (by simpa using w1) (fun j hj=>?_)]
     .simp
     .have:=w2 (j+1) (by omega)
      simpa using this
    by_cases b:out.length=40
    .rw[yb (by simp) (.inr b),c]
     cases hs:scF (out++[(x::l).take (m+1)]) ((x::l).drop (m+1)) with
     | none=>rfl
     | some r =>
      have:=b20 _ _ _ hs;rw[List.length_append]at this;simp at this;have f:¬ r.length<=40:=by omega
      show none=if r.length<=40 then some r else none
      rw[if_neg f]
    .rw[Hl (by simp) a b,d,c]
     refine Og n _ _ (by rw[List.length_drop];simp at hn ⊢;omega) (by simp;omega) (fun p y hp hy=>?_);simp at hp;subst hp;rw[List.head?_drop]at hy;have g:m+1<(x::l).length:=(List.getElem?_eq_some_iff.1 hy).1;have:=w3 g;rw[List.take_add_one,hy]at this;simp at this ⊢;omega
def nl (l:List Rw):Option (List (List Rw)):=if da l then qm [] l else none
theorem aw6 (l:List Rw):qm [] l=xm (scF [] l) :=
 Og l.length l [] bR (by simp) (fun p x hp=>by simp at hp)
theorem Jl {l:List Rw}(h:da l=true) (n:Nat):da (l.drop n)=true:=by
 refine wj (by have:=mj h;rw[List.length_drop];omega) (fun i hi=>?_);rw[List.length_drop]at hi;have a:=yx h (show n+i<l.length by omega);have e:∀ j,dr (l.drop n) j=dr l (n+j):=fun j=>by unfold dr;rw[List.getElem?_drop]
 unfold mo at a ⊢;rw[e];rw[Bool.and_eq_true]at a ⊢;refine⟨a.1,?_⟩;by_cases c:i=0
 .simp[c]
 .have b:=a.2
  rw[e];have d:(n+i == 0)=false:=by simp;omega
  have f:(i == 0)=false:=by simp[c]
  rw[d,Bool.false_or]at b;rw[f,Bool.false_or,show n+(i-1)=n+i-1 by omega];exact b
theorem Jn {l:List Rw}(h:da l=true) (n:Nat):da (l.take n)=true:=by
 refine wj (by have:=mj h;rw[List.length_take];omega) (fun i hi=>?_);rw[List.length_take]at hi;have a:=yx h (show i<l.length by omega);have e:∀ j,j<n->dr (l.take n) j=dr l j:=fun j hj=>by unfold dr;rw[List.getElem?_take_of_lt hj]
 unfold mo at a ⊢;rw[e i (by omega),e (i-1) (by omega)];exact a
theorem a87 {l:List Rw}(e:da l=true) (_h0:l.length≠0) (f:¬ wn l 300=0):io (l.take (wn l 300))=true:=by
 obtain⟨h,g,i⟩:=Zc l 300;unfold io;have a:=Jn e (wn l 300);have b:(fi (l.take (wn l 300))).length<=300:=by
  have:=g (wn l 300-1) (by omega);rw[show wn l 300-1+1=wn l 300 by omega]at this;exact this
 have c:((l.take (wn l 300)).length == 0)=false:=by
  have d:(l.take (wn l 300)).length=wn l 300:=by rw[List.length_take];omega
  rw[d];simp[f]
 rw[a,c,decide_eq_true b];rfl
theorem U7:∀ (n:Nat) (l:List Rw) (acc r:List (List Rw)),l.length<=n->da l=true->acc.length<=40->(∀ p ∈ acc,io p=true)->qm acc l=some r->r.length<=40/\∀ p ∈ r,io p=true
 | 0,l,acc,r,hn,_,ha,hp,h=>by
  rw[yr (by omega)]at h
  cases h
  exact⟨ha,hp⟩
 | n+1,l,acc,r,hn,hg,ha,hp,h=>by
  by_cases h0:l.length=0
  .rw[yr h0]at h
   cases h
   exact⟨ha,hp⟩
  .by_cases h1:wn l 300=0
   .rw[yb h0 (.inl h1)]at h;cases h
   .by_cases h2:acc.length=40
    .rw[yb h0 (.inr h2)]at h;cases h
    .rw[Hl h0 h1 h2]at h
     refine U7 n _ _ r (by rw[List.length_drop];omega) (Jl hg _) (by simp;omega) (fun p a=>?_) h;rcases List.mem_append.1 a with a|a
     .exact hp p a
     .simp at a
      rw[a];exact a87 hg h0 h1
theorem Kq {l:List Rw} {r:List (List Rw)}(h:nl l=some r):r.length<=40/\∀ p ∈ r,io p=true:=by
 unfold nl at h;split at h
 .rename_i hg
  exact U7 l.length l [] r bR hg (by simp) (fun p hp=>by simp at hp) h
 .cases h
def gB (x:Int):UInt8:=x.toNat.toUInt8
theorem yo (bs:List Int):(byT bs).data.toList=bs.map gB:=by simp[byT,gB]
theorem Vb (s:ByteArray):(bI s).map gB=s.data.toList:=by
 have:=congrArg (fun t:ByteArray=>t.data.toList) (O5 s);rw[yo]at this;exact this
theorem kc (s:ByteArray) (a b:Nat):(s.extract a b).data.toList=(s.data.toList.drop a).take (b-a):=by
 rw[yu,Array.toList_extract,List.extract_eq_take_drop]
theorem Iv {s t:ByteArray}(h:s.data.toList=t.data.toList):s=t:=ByteArray.ext (Array.toList_inj.1 h)
theorem seg {t:ByteArray} {a b c:List UInt8} {i n:Nat}(h:t.data.toList=a++(b++c)) (d:a.length=i) (e:b.length=n):(t.extract i (i+n)).data.toList=b:=by
 subst d;subst e;rw[kc,h,List.drop_left];simp
theorem Us {t:ByteArray} {a c:List UInt8} {i:Nat}(h:t.data.toList=a++c) (d:a.length=i):(t.extract i t.size).data.toList=c:=by
 subst d;have e:t.size=a.length+c.length:=by
  have b:t.data.toList.length=t.size:=Array.length_toList;rw[h,List.length_append]at b;exact b.symm
 rw[kc,h,List.drop_left,e];simp
theorem Qp:∀ (x y:List UInt8),x.take (shL x y)=y.take (shL x y)
 | [],y=>by cases y <;> simp[shL]
 | a::x,[]=>by simp[shL]
 | a::x,b::y=>by
  unfold shL;split
  .rename_i h
   simp[h,Qp x y]
  .simp
theorem E6 {n:Nat}(h:n<=255):(gB (n:Int)).toNat=n:=by
 unfold gB;simp
 omega
theorem aj2 {a c:List UInt8} {i:Nat}(h:i<a.length):(a++c).getD i 0=a.getD i 0:=by
 simp[List.getD,List.getElem?_append_left h]
theorem ap5 (p:ByteArray) (x:Rw) (rs:List Int):(byT (jp p x++rs)).data.toList=[gB (shB p x.key:Int),gB ((x.key.size:Int)-(shB p x.key:Int)),gB (x.text.size:Int),gB (x.val.size:Int)]++((x.key.data.toList.drop (shB p x.key))++(x.text.data.toList++(x.val.data.toList++rs.map gB))):=by
 rw[yo,List.map_append];unfold jp;rw[List.map_append,List.map_append,List.map_append,Vb,Vb,Vb,kc];have h:(x.key.data.toList.drop (shB p x.key)).take (x.key.size-shB p x.key)=x.key.data.toList.drop (shB p x.key):=by
  apply List.take_of_length_le
  have a:x.key.data.toList.length=x.key.size:=Array.length_toList;rw[List.length_drop,a];exact bR
 rw[h];simp
theorem Cl {t:ByteArray} {a c:List UInt8} {i n:Nat}(h:t.data.toList=a++c) (hi:i<a.length) (b:(a.getD i 0).toNat=n):hd t i=n:=by
 unfold hd bAt;rw[h,aj2 hi];exact b
theorem ap4 {p:ByteArray} {x:Rw} {rs:List Int}(z:p.size<=255) (h0:x.key.size<=255) (h1:x.text.size<=255) (h2:x.val.size<=255) :
  ox p (byT (jp p x++rs))=true/\mi p (byT (jp p x++rs))=x/\lp (byT (jp p x++rs))=byT rs:=by
 have a:=ap5 p x rs;have B:=Fu p x.key;have C:=Fv p x.key;have v:x.key.data.toList.length=x.key.size:=Array.length_toList;have lt:x.text.data.toList.length=x.text.size:=Array.length_toList;have i:x.val.data.toList.length=x.val.size:=Array.length_toList;have y:(byT (jp p x++rs)).size=(jp p x).length+rs.length:=by rw[rg,List.length_append]
 have w:=ul p x;generalize byT (jp p x++rs)=t at *;have h:hd t 0=shB p x.key:=Cl a (by simp) (E6 (n:=shB p x.key) (by omega));have b:hd t 1=x.key.size-shB p x.key:=Cl a (by simp) (by
  have e:((x.key.size:Int)-(shB p x.key:Int))=((x.key.size-shB p x.key:Nat):Int):=by omega
  show (gB ((x.key.size:Int)-(shB p x.key:Int))).toNat=_
  rw[e];exact E6 (by omega))
 have c:hd t 2=x.text.size:=Cl a (by simp) (E6 h1);have g:hd t 3=x.val.size:=Cl a (by simp) (E6 h2);generalize hA:[gB (shB p x.key:Int),gB ((x.key.size:Int)-(shB p x.key:Int)),gB (x.text.size:Int),gB (x.val.size:Int)]=A at a;have d:A.length=4:=by rw[<- hA];rfl
 have f:(x.key.data.toList.drop (shB p x.key)).length=x.key.size-shB p x.key:=by rw[List.length_drop,v]
 have o:(t.extract 4 (4+hd t 1)).data.toList=x.key.data.toList.drop (shB p x.key):=by rw[b];exact seg a d f
 have j:t.data.toList=(A++x.key.data.toList.drop (shB p x.key))++(x.text.data.toList++(x.val.data.toList++rs.map gB)):=by rw[a];simp
 have q:(t.extract (4+hd t 1) (4+hd t 1+hd t 2)).data.toList=x.text.data.toList:=by
  rw[c];exact seg j (by rw[List.length_append,d,f,b]) lt
 have l:t.data.toList=(A++x.key.data.toList.drop (shB p x.key)++x.text.data.toList)++(x.val.data.toList++rs.map gB):=by rw[a];simp
 have r:(t.extract (4+hd t 1+hd t 2) (4+hd t 1+hd t 2+hd t 3)).data.toList=x.val.data.toList:=by
  rw[g];exact seg l (by rw[List.length_append,List.length_append,d,f,lt,b,c]) i
 have m:t.data.toList=(A++x.key.data.toList.drop (shB p x.key)++x.text.data.toList++x.val.data.toList)++rs.map gB:=by rw[a];simp
 have s:(t.extract (4+hd t 1+hd t 2+hd t 3) t.size).data.toList=rs.map gB:=Us m (by rw[List.length_append,List.length_append,List.length_append,d,f,lt,i,b,c,g]);have u:(p.extract 0 (hd t 0)).data.toList=x.key.data.toList.take (shB p x.key):=by
  rw[h,kc];have:=Qp p.data.toList x.key.data.toList;simp
  exact this
 refine⟨?_,?_,?_⟩
 .unfold ox
  rw[h,b,c,g];simp
  omega
 .unfold mi
  obtain⟨k,D,E⟩:=x;congr 1
  .apply Iv
   have:(p.extract 0 (hd t 0)++t.extract 4 (4+hd t 1)).data.toList=(p.extract 0 (hd t 0)).data.toList++(t.extract 4 (4+hd t 1)).data.toList:=by simp
   rw[this,u,o];simp
  .exact Iv q
  .exact Iv r
 .unfold lp
  apply Iv
  rw[s,yo]
theorem Ml:∀ (l:List Rw) (p:ByteArray),p.size<=255->(∀ x ∈ l,x.key.size<=255/\x.text.size<=255/\x.val.size<=255)->rdF l.length p (byT (fd p l))=some l
 | [],p,_,_=>rfl
 | x::l,p,hp,h=>by
  obtain⟨h0,h1,h2⟩:=h x (by simp);obtain⟨a,b,c⟩:=ap4 (rs:=fd x.key l) hp h0 h1 h2;show rdF (l.length+1) p (byT (jp p x++fd x.key l))=_
  unfold rdF;rw[a,b,c,if_pos rfl,Ml l x.key h0 (fun y hy=>h y (by simp[hy]))];rfl
def pgB (g:List Rw):ByteArray:=byT (fi g)
theorem Q6 (g:List Rw):(pgB g).size=lnP g:=rg _
theorem an7 (g:List Rw):(pgB g).data.toList=[gB 80,gB 71,gB (g.length:Int)]++(fd ⟨#[]⟩ g).map gB:=by
 unfold pgB fi;rw[yo,List.map_append];rfl
theorem Mf {g:List Rw}(h0:0<g.length) (d:da g=true) (m:lnP g<=300):dj (pgB g)=0/\am (pgB g)=g:=by
 have c:=ph d;have a:=an7 g;have o:=Q6 g;have k:3<=lnP g:=by rw[Bm];omega
 have b:mu (pgB g)=true:=by unfold mu;rw[o,decide_eq_true k,decide_eq_true m];rfl
 have h:hd (pgB g) 0=80:=Cl a (by simp) rfl;have i:hd (pgB g) 1=71:=Cl a (by simp) rfl;have j:hd (pgB g) 2=g.length:=Cl a (by simp) (E6 c.1);have e:mn (pgB g)=true:=by unfold mn;rw[h,i];rfl
 have l:(pgB g).extract 3 (pgB g).size=byT (fd ⟨#[]⟩ g):=by
  apply Iv
  rw[yo];exact Us a rfl
 have f:fu (pgB g)=some g:=by
  unfold fu;rw[j,l,Ml g ⟨#[]⟩ (Nat.zero_le _) c.2];have n:li (pgB g) g=true:=by
   unfold li;rw[d,decide_eq_true (show byT (fi g)=pgB g from rfl)];have:(g.length == 0)=false:=by rw[beq_eq_false_iff_ne];omega
   rw[this];rfl
  simp[n]
 constructor
 .unfold dj;rw[b,e,f];rfl
 .unfold am;rw[b,e,f];rfl
theorem a95 {g:List Rw}(a:¬ lnP g<=300):dj (pgB g)=1:=by
 unfold dj mu;rw[Q6,decide_eq_false a];simp
def np (l:List Rw):ByteArray:=(dr l (l.length-1)).key
def rd (l:List Rw):ByteArray:=(dr l 0).key
def ii (acc:List (List Rw)) (s:ByteArray):Bool :=
 decide (dj s=0) && (match acc.getLast? with|none=>true|some l=>ltK (np l) (rd (am s)))
def bkF:List (List Rw)->List ByteArray->Option (List (List Rw))
 | acc,[]=>some acc
 | acc,s::ss=>if ii acc s then bkF (acc++[am s]) ss else none
def bu (ss:List ByteArray):Option (List (List Rw)):=if ss.length<=40 then bkF [] ss else none
theorem Fh {acc:List (List Rw)} {ss:List ByteArray} {k:Nat} {s:ByteArray}(h:ss[k]? = some s) (b:ii acc s=true):bkF acc (ss.drop k)=bkF (acc++[am s]) (ss.drop (k+1)):=by
 have hd:ss.drop k=s::ss.drop (k+1):=by
  obtain⟨a,rfl⟩:=List.getElem?_eq_some_iff.1 h;exact List.drop_eq_getElem_cons a
 rw[hd];simp[bkF,b]
theorem J0 {acc:List (List Rw)} {ss:List ByteArray} {k:Nat} {s:ByteArray}(h:ss[k]? = some s) (b:ii acc s=false):bkF acc (ss.drop k)=none:=by
 have hd:ss.drop k=s::ss.drop (k+1):=by
  obtain⟨a,rfl⟩:=List.getElem?_eq_some_iff.1 h;exact List.drop_eq_getElem_cons a
 rw[hd];simp[bkF,b]
theorem xt {s:ByteArray}(h:dj s=0):0<(am s).length:=by
 unfold dj at h;unfold am
 cases h1:mu s
 .rw[h1]at h;simp at h
 cases h2:mn s
 .rw[h1,h2]at h;simp at h
 rw[h1,h2]at h;simp only[if_true,Bool.and_self]at h ⊢
 cases h3:fu s with
 | none=>rw[h3]at h;simp at h
 | some l =>
  unfold fu at h3;split at h3
  .cases h3
  .rename_i l' _
   split at h3
   .rename_i hp
    obtain rfl:=Option.some.inj h3;unfold li at hp;simp only[Bool.and_eq_true,Bool.not_eq_true',beq_eq_false_iff_ne,ne_eq]at hp;show 0<l'.length
    omega
   .cases h3
def dw (ss:List ByteArray) (k:Nat):List (List Rw):=(ss.take k).map am
theorem ym {ss:List ByteArray} {k:Nat}(h:k<=ss.length):(dw ss k).length=k:=by simp[dw,h]
theorem n9 {ss:List ByteArray} {k:Nat} {s:ByteArray}(h:ss[k]? = some s):dw ss k++[am s]=dw ss (k+1):=by
 unfold dw;rw[List.take_add_one,h];simp
theorem au4 {ss:List ByteArray} {k j:Nat} {s:ByteArray}(h:ss[j]? = some s) (a:j<k):(dw ss k)[j]? = some (am s):=by
 unfold dw;rw[List.getElem?_map,List.getElem?_take_of_lt a,h];rfl
theorem Gx {ss:List ByteArray} {s:ByteArray}:ii (dw ss 0) s=decide (dj s=0):=by simp[ii,dw]
theorem Gw {ss:List ByteArray} {j:Nat} {y s:ByteArray}(h:ss[j]? = some y):ii (dw ss (j+1)) s=(decide (dj s=0) && ltK (np (am y)) (rd (am s))):=by
 unfold ii;rw[<- n9 h];simp
theorem U1 (ss:List ByteArray) (acc:List (List Rw)):bkF acc (ss.drop ss.length)=some acc:=by simp[bkF]
theorem Uc {l:List Rw} {x:Rw}(h:l[l.length-1]? = some x):np l=x.key:=by unfold np dr;rw[h];rfl
theorem U0 {l:List Rw} {x:Rw}(h:l[0]? = some x):rd l=x.key:=by unfold rd dr;rw[h];rfl
theorem Zs:∀ (ss:List ByteArray) (acc gs:List (List Rw)),bkF acc ss=some gs->gs=acc++ss.map am
 | [],acc,gs,h=>by simp[bkF]at h;simp[h]
 | s::ss,acc,gs,h=>by
  unfold bkF at h;split at h
  .rw[Zs ss _ gs h];simp
  .cases h
theorem Nz {ss:List ByteArray} {gs:List (List Rw)}(h:bu ss=some gs):gs.length<=40/\∀ l ∈ gs,l.length<=60:=by
 unfold bu at h;split at h
 .rename_i hl
  rw[Zs ss [] gs h];refine⟨by simpa using hl,fun l hm=>?_⟩;simp at hm;obtain⟨s,_,rfl⟩:=hm;exact A4 s
 .cases h

def o8 (a b:ByteArray):Int:=Lib.compareBytes a.data.toList b.data.toList
theorem Fx (a b:ByteArray) (w:World) :
  Calls prog 150 #[.string a,.string b] w fun e w'=>e=.returned (.int .i64 (o8 a b))/\w'=w:=by
 go_enter func150,ntmps150;go_wp2;rw[run_callFunc_extern func174 (by kernel_rfl) (by kernel_rfl) (by kernel_rfl) (e:=Extern.BytealgCompare.compare) (by kernel_rfl),Lib.run_compareString];simp only[Result.andThen];rw[Oper.upon_value];go_wp2;go_ret;exact⟨rfl,rfl⟩
theorem L8 (a b:ByteArray) (w:World) :
  Calls prog 130 #[.string a,.string b] w fun e w'=>e=.returned (.int .i64 (o8 a b))/\w'=w:=by
 have A:=fun w=>Fx a b w
 go_enter func130,ntmps130;go_wp2_with fail;refine (A _).mono ?_;rintro e c ⟨rfl,rfl⟩;clear A;go_wp2;go_ret;exact⟨rfl,rfl⟩
theorem Er (x:Rw) (key:ByteArray) (w:World) :
  Calls prog 129 #[.agg #[.string x.key,.string x.text,.string x.val],.string key] w fun e w'=>e=.returned (.int .i64 (o8 x.key key))/\Below w.heap.size w w':=by
 have A:=fun w=>L8 x.key key w
 have a:Hid (∀ o,Below w.heap.size w (w.alloc o)):=fun o=>(Below.refl w.heap.size w).alloc bR o
 go_enter func129,ntmps129;go_wp2_with fail;refine (A _).mono ?_;rintro e b ⟨rfl,rfl⟩;clear A;go_wp2;go_ret;exact⟨rfl,a.out _⟩
def bsF (l:List Rw) (key:ByteArray) (i j:Nat):Nat :=
 if i<j then
  if o8 (dr l ((i+j) / 2)).key key<0 then bsF l key ((i+j) / 2+1) j else bsF l key i ((i+j) / 2)
 else i
termination_by j-i
decreasing_by all_goals omega
theorem Zv {l:List Rw} {key:ByteArray} {i j:Nat}(h:i<j) (a:o8 (dr l ((i+j) / 2)).key key<0):bsF l key i j=bsF l key ((i+j) / 2+1) j:=by
 rw[bsF,if_pos h,if_pos a]
theorem O2 {l:List Rw} {key:ByteArray} {i j:Nat}(h:i<j) (a:¬ o8 (dr l ((i+j) / 2)).key key<0):bsF l key i j=bsF l key i ((i+j) / 2):=by
 rw[bsF,if_pos h,if_neg a]
theorem Fj {l:List Rw} {key:ByteArray} {i j:Nat}(h:¬ i<j):bsF l key i j=i:=by rw[bsF,if_neg h]
def ba (l:List Rw) (key:ByteArray):Nat:=bsF l key 0 l.length
def di (l:List Rw) (key:ByteArray):Bool:=decide (ba l key<l.length) && decide (o8 (dr l (ba l key)).key key=0)
theorem Oa:∀ a b:List UInt8,Lib.compareBytes a b<0↔Op.bytesLess a b=true
 | [],[]=>by simp[Lib.compareBytes,Op.bytesLess]
 | [],_::_=>by simp[Lib.compareBytes,Op.bytesLess]
 | _::_,[]=>by simp[Lib.compareBytes,Op.bytesLess]
 | x::a,y::b=>by
  have f:=Oa a b;unfold Lib.compareBytes Op.bytesLess;by_cases h:x<y
  .simp[h]
  .by_cases c:y<x
   .have d:x≠y:=fun e=>by subst e;exact h c
    simp[h,c,d]
   .have d:x=y:=UInt8.le_antisymm (UInt8.not_lt.1 c) (UInt8.not_lt.1 h)
    subst d;simp only[h,if_false,f,decide_false,beq_self_eq_true,Bool.true_and,Bool.false_or]
theorem Ln:∀ a b:List UInt8,Lib.compareBytes a b=0↔a=b
 | [],[]=>by simp[Lib.compareBytes]
 | [],_::_=>by simp[Lib.compareBytes]
 | _::_,[]=>by simp[Lib.compareBytes]
 | x::a,y::b=>by
  have f:=Ln a b;unfold Lib.compareBytes;by_cases h:x<y
  .have c:x≠y:=fun e=>by subst e;exact absurd h (UInt8.lt_irrefl _)
   simp[h,c]
  .by_cases d:y<x
   .have c:x≠y:=fun e=>by subst e;exact absurd d (UInt8.lt_irrefl _)
    simp[h,d,c]
   .have c:x=y:=UInt8.le_antisymm (UInt8.not_lt.1 d) (UInt8.not_lt.1 h)
    subst c;simp only[h,if_false,f,List.cons.injEq,true_and]
theorem Hk (a b:ByteArray):o8 a b<0↔ltK a b=true:=by
 unfold o8 ltK;rw[ByteArray.toList_eq,ByteArray.toList_eq];exact Oa _ _
theorem zt (a b:ByteArray):o8 a b=0↔a=b:=by
 unfold o8;rw[Ln];constructor
 .intro h
  exact ByteArray.ext (Array.ext' h)
 .rintro rfl;rfl
theorem ml {a b c:ByteArray}(h1:ltK a b=true) (h2:ltK b c=true):ltK a c=true:=K0 _ _ _ h1 h2
theorem Fr (a:ByteArray):ltK a a=false:=Gu _
theorem Ul {a b:ByteArray}(h1:ltK a b=false) (h2:a≠b):ltK b a=true:=by
 rcases Jz a.toList b.toList with h|h|h
 .unfold ltK at h1;rw[h1]at h;cases h
 .rw[ByteArray.toList_eq,ByteArray.toList_eq,beq_iff_eq]at h
  exact absurd (ByteArray.ext (Array.ext' h)) h2
 .exact h
def m6 (l:List Rw):Prop:=∀ i j,i<j->j<l.length->ltK (dr l i).key (dr l j).key=true
theorem qg {l:List Rw}(h:da l=true):m6 l:=by
 intro i j f b;obtain⟨d,rfl⟩:∃ d,j=i+1+d:=⟨j-i-1,by omega⟩
 induction d with
 | zero =>
  have:=yx h b;unfold mo at this;simpa using (Bool.and_eq_true _ _ ▸ this).2
 | succ d ih =>
  have c:=ih (by omega) (by omega);have a:=yx h b;unfold mo at a;have e:ltK (dr l (i+1+d)).key (dr l (i+1+(d+1))).key=true:=by
   have:=(Bool.and_eq_true _ _ ▸ a).2;simpa using this
  exact ml c e
theorem nu {l:List Rw} {i:Nat} {x:Rw}(h:l[i]? = some x):dr l i=x:=by unfold dr;rw[h];rfl
theorem Bq {l:List Rw} {i:Nat}(h:i<l.length):l[i]? = some (dr l i):=by unfold dr;rw[List.getElem?_eq_getElem h];rfl
theorem O3 {l:List Rw} {key:ByteArray}(a:m6 l):∀ (n i j:Nat),j-i<=n->i<=j->j<=l.length->(∀ p,p<i->ltK (dr l p).key key=true)->(∀ p,j<=p->p<l.length->ltK (dr l p).key key=false) ->
  bsF l key i j<=l.length/\(∀ p,p<bsF l key i j->ltK (dr l p).key key=true)/\(∀ p,bsF l key i j<=p->p<l.length->ltK (dr l p).key key=false)
 | 0,i,j,hn,h1,h2,h3,h4=>by
  rw[Fj (by omega)];obtain rfl:i=j:=by omega
  exact⟨h2,h3,h4⟩
 | n+1,i,j,hn,h1,h2,h3,h4=>by
  by_cases c:i<j
  .by_cases d:o8 (dr l ((i+j) / 2)).key key<0
   .rw[Zv c d]
    refine O3 a n _ j (by omega) (by omega) h2 (fun p hp=>?_) h4;by_cases e:p=(i+j) / 2
    .rw[e];exact (Hk _ _).1 d
    .exact ml (a p ((i+j) / 2) (by omega) (by omega)) ((Hk _ _).1 d)
   .rw[O2 c d]
    refine O3 a n i _ (by omega) (by omega) (by omega) h3 (fun p hp hl=>?_);have b:ltK (dr l ((i+j) / 2)).key key=false:=by
     cases e:ltK (dr l ((i+j) / 2)).key key
     .rfl
     .exact absurd ((Hk _ _).2 e) d
    by_cases e:p=(i+j) / 2
    .rw[e];exact b
    .cases f:ltK (dr l p).key key
     .rfl
     .rw[ml (a ((i+j) / 2) p (by omega) hl) f]at b;cases b
  .rw[Fj c]
   obtain rfl:i=j:=by omega
   exact⟨h2,h3,h4⟩
theorem nz {l:List Rw}(key:ByteArray) (a:m6 l):ba l key<=l.length/\(∀ p,p<ba l key->ltK (dr l p).key key=true)/\(∀ p,ba l key<=p->p<l.length->ltK (dr l p).key key=false) :=
 O3 a l.length 0 l.length (by omega) (by omega) bR (fun p hp=>by omega) (fun p h1 h2=>by omega)
def au0 (l:List Rw) (key:ByteArray):Rw:=(l.find? fun x=>decide (x.key=key)).getD rwZ
theorem qt {l:List Rw} {key:ByteArray}(g:m6 l) (h:di l key=true):au0 l key=dr l (ba l key)/\ba l key<l.length:=by
 obtain⟨i,f,k⟩:=nz key g;unfold di at h;rw[Bool.and_eq_true,decide_eq_true_eq,decide_eq_true_eq,zt]at h;refine⟨?_,h.1⟩;unfold au0;have:l.find? (fun x=>decide (x.key=key))=some (dr l (ba l key)):=by
  rw[List.find?_eq_some_iff_getElem];refine⟨by simpa using h.2,ba l key,h.1,?_,fun j hj=>?_⟩
  .have:=Bq h.1
   rw[List.getElem?_eq_getElem h.1]at this;exact Option.some.inj this
  .have a:j<l.length:=by omega
   have e:=Bq a;rw[List.getElem?_eq_getElem a]at e;have d:=Option.some.inj e;have b:=f j hj;rw[d];have:¬ (dr l j).key=key:=fun c=>by rw[c,Fr]at b;cases b
   simp[this]
 rw[this];rfl
theorem aa7 {l:List Rw} {key:ByteArray}(k:m6 l) (h:di l key=false):∀ x ∈ l,x.key≠key:=by
 intro x q c;obtain⟨i,j⟩:=List.getElem?_of_mem q;have m:=(List.getElem?_eq_some_iff.1 j).1;obtain⟨r,n,o⟩:=nz key k;have a:=nu j;have t:ba l key<=i:=by
  apply Classical.byContradiction
  intro s;have:=n i (by omega);rw[a,c,Fr]at this
  cases this
 have d:ba l key<l.length:=by omega
 unfold di at h;rw[decide_eq_true d,Bool.true_and,decide_eq_false_iff_not,zt]at h;have p:=o _ bR d;have b:=Ul p h;by_cases e:ba l key=i
 .rw[e,a,c,Fr]at b;cases b
 .have f:=k (ba l key) i (by omega) m
  rw[a,c]at f;have g:=ml b f;rw[Fr]at g;cases g
theorem Y9 {s:ByteArray}(h:dj s=0):da (am s)=true:=by
 unfold dj at h;unfold am
 cases h1:mu s
 .rw[h1]at h;simp at h
 cases h2:mn s
 .rw[h1,h2]at h;simp at h
 rw[h1,h2]at h;simp only[if_true,Bool.and_self]at h ⊢
 cases h3:fu s with
 | none=>rw[h3]at h;simp at h
 | some l =>
  unfold fu at h3;split at h3
  .cases h3
  .rename_i l' _
   split at h3
   .rename_i hp
    obtain rfl:=Option.some.inj h3;unfold li at hp;rw[Bool.and_eq_true,Bool.and_eq_true]at hp;exact hp.1.2
   .cases h3
theorem db {W:World} {B:Nat} {v:Value} {l:List Rw}(h:Rws W B v l):∃ a c,v=.slice a l.length c:=by
 rcases h.form with ⟨rfl,rfl⟩|⟨g,c,rfl,_,_⟩
 .exact⟨_,_,rfl⟩
 .exact⟨_,_,rfl⟩
theorem Ur {W:World} {B:Nat} {v:Value} {l:List Rw} {x:Rw}(h:W.ownsRow B 37 3 v (l.length+1) (fe l++rwC x)):Rws W B v (l++[x]):=by
 unfold Rws;have a:(l++[x]).length=l.length+1:=by simp
 have b:fe (l++[x])=fe l++rwC x:=by rw[zk];simp[fe]
 rw[a,b];exact h
theorem Ds (w:World) (n:Nat) (x y z:Value) (ty:TypeId) (b:n=w.heap.size):∀ j u,[x,y,z][j]? = some u->(w.alloc (.cells #[x,y,z] ty)).cell? ((⟨n,0,none⟩:Addr).add j)=some u:=by
 subst b;intro j u a;match j,a with
 | 0,a=>simp at a;subst a;simp[Addr.add]
 | 1,a=>simp at a;subst a;simp[Addr.add]
 | 2,a=>simp at a;subst a;simp[Addr.add]
 | j+3,a=>simp at a
theorem Sw {u u' w':World} {r:Option Nat}(h:u.grownBy w' r) (h1:u.heap=u'.heap) (h2:u.os=u'.os) (a:u.tape=u'.tape) (b:u.output=u'.output):u'.grownBy w' r :=
 ⟨h.os.trans h2,h.tape.trans a,h.output.trans b,by rw[<- h1];exact h.size,fun k hk hne=>by rw[<- h1]at hk ⊢;exact h.block k hk hne⟩
theorem ja {W:World} {B c:Nat} {a:Option Addr} {l:List Rw}(h:Rws W B (.slice a l.length c) l):dc W a l:=by
 rcases h.form with ⟨_,b⟩|⟨g,f,d,_,_⟩
 .exact .inl b
 .have e:=(Value.slice.inj d).1
  subst e;exact h.sl
theorem zc {a b:ByteArray}(h:¬ a=b):(a.toList == b.toList)=false:=by
 rw[beq_eq_false_iff_ne];intro e;rw[ByteArray.toList_eq,ByteArray.toList_eq]at e;exact h (ByteArray.ext (Array.toList_inj.1 e))
theorem Ey {w:World} {B:Nat} {v:Value} {l:List Rw}(h:Rws w B v l) (a:0<l.length):∃ g c,v=.slice (some ⟨g,0,none⟩) l.length c/\∀ (k:Nat) (e:Rw),l[k]? = some e->w.cell? ⟨g,k*3,none⟩=some (.string e.key):=by
 rcases h.form with ⟨rfl,rfl⟩|⟨g,c,rfl,_,_⟩
 .simp at a
 .exact⟨g,c,rfl,fun k e hk=>(h.cells k e hk).1⟩
def PgR (w:World) (b:Nat) (t:ByteArray):Prop:=w.heap[b]? = some (.cells #[.string t] 232)
theorem PgR.cell {w:World} {b:Nat} {t:ByteArray}(h:PgR w b t):w.cell? ⟨b,0,none⟩=some (.string t):=cell_of_row _ _ 0 _ _ _ h
theorem PgR.frozen {w:World} {b:Nat} {t:ByteArray}(h:PgR w b t) (j:Nat):w.frozen? ⟨b,j,none⟩=false:=by unfold PgR at h;simp[World.frozen?,h]
theorem PgR.lt {w:World} {b:Nat} {t:ByteArray}(h:PgR w b t):b<w.heap.size:=(Array.getElem?_eq_some_iff.1 h).1
theorem PgR.set {w:World} {b:Nat} {t:ByteArray}(h:PgR w b t) (u:ByteArray):PgR (w.setCell ⟨b,0,none⟩ (.string u)) b u:=by
 unfold PgR at h ⊢;simp[World.setCell,Array.getElem?_modify,h]
theorem PgR.below {w w':World} {b:Nat} {t:ByteArray}(h:PgR w b t) (a:Below w.heap.size w w'):PgR w' b t:=(a.block b h.lt).trans h
theorem b27 {w:World} {b n:Nat} {t:ByteArray}(a:PgR w b t) (g:n<=t.size) :
  Calls prog 172 #[.pointer (some ⟨b,0,none⟩),.int .i64 (n:Int)] w fun e w'=>e=.returned (.string (t.extract 0 n))/\w'=w.setCell ⟨b,0,none⟩ (.string (t.extract n t.size)):=by
 have c:=a.cell;have d:=a.frozen 0;have h:=a.lt;have f:(n:Int)<=(t.size:Int):=by omega
 go_enter func172,ntmps172;go_wp2;go_ret;exact⟨rfl,rfl⟩
theorem b26 {w:World} {b n:Nat} {t:ByteArray} {ty:TypeId} {pv:Value}(f:w.cell? ⟨6,0,none⟩=some (.iface ty pv)) (a:PgR w b t) (g:t.size<n) :
  Calls prog 172 #[.pointer (some ⟨b,0,none⟩),.int .i64 (n:Int)] w fun e w'=>e=.panicked [{ v:=.iface ty pv,recovered:=false }]/\w'=w:=by
 have c:=a.cell;have h:=a.lt;have d:¬ (n:Int)<=(t.size:Int):=by omega
 go_enter func172,ntmps172;go_wp2;exact⟨rfl,rfl,rfl⟩
end Go.Proofs.YtjbmgghehdemdaaGreatDoor
