/- EntK -/
import Derived.Test.YtjbmgghehdemdaaGreatDoorMT3
import Derived.Test.YtjbmgghehdemdaaGreatDoorMT7
import Derived.Test.YtjbmgghehdemdaaGreatDoorMT30
import Derived.Test.YtjbmgghehdemdaaGreatDoorMT11
import Derived.Test.YtjbmgghehdemdaaGreatDoorMT5
import Derived.Lib.Strings
import Derived.Lib.CutLaws
import Derived.Lib.TrimByte
namespace Go.Proofs.YtjbmgghehdemdaaGreatDoor
set_option maxRecDepth 100000
set_option maxHeartbeats 16000000
open _root_.Go.Proofs.Tryz
open Go.RowKit
theorem ak8 {b b' o o':Nat}(h:b≠b'∨o≠o'):(⟨b,o,none⟩:Addr)≠⟨b',o',none⟩:=by
 intro e;injection e;omega
theorem de {u:World} {b b' o o':Nat} {x:Value}(h:b≠b'∨o≠o'):(u.setCell ⟨b,o,none⟩ x).cell? ⟨b',o',none⟩=u.cell? ⟨b',o',none⟩:=by
 apply World.cell?_setCell_other
 exact ak8 h
theorem Ae {u:World} {a:Addr} {x y:Value}(h:u.cell? a=some y):(u.setCell a x).cell? a=some x:=by
 apply World.cell?_setCell_same
 exact h
def mb (u:World) (b:Nat) (e:El):World:=(((u.setCell ⟨b,0,none⟩ (.int .i64 e.first)).setCell ⟨b,1,none⟩ (.int .i64 e.second)).setCell ⟨b,2,none⟩ (.int .i64 e.third)).setCell ⟨b,3,none⟩ (.bool e.varies)
theorem qs {u:World} {b b' o:Nat} {e:El}(h:b≠b'):(mb u b e).cell? ⟨b',o,none⟩=u.cell? ⟨b',o,none⟩:=by
 unfold mb;rw[de (.inl h),de (.inl h),de (.inl h),de (.inl h)]
theorem pz (u:World) (b:Nat) (e:El):u.grownBy (mb u b e) (some b) :=
 (((au u b 0 _).trans (au _ b 1 _)).trans (au _ b 2 _)).trans (au _ b 3 _)
theorem ac.grown {u u':World} {B b:Nat} {v:Value} {es:List Ent}(h:ac u B v es) (hg:u.grownBy u' (some b)) (hb:b<B):ac u' B v es:=by
 have ne:∀ {v:Value},(∀ g,v.ownBlock=some g→B≤g)→v.ownBlock=none∨v.ownBlock≠some b:=fun {v} h=>by
  cases e:v.ownBlock with
  | none=>exact .inl rfl
  | some g =>
   refine .inr fun c=>?_
   have:=h g e
   cases c
   omega
 obtain⟨xs,hl,h1,h2⟩:=h;refine⟨xs,hl,World.ownsRow.kept h1 hg (ne fun g hg=>(World.ownsRow.lt h1 g hg).1),fun k e he=>?_⟩;obtain⟨x,hx,hI⟩:=h2 k e he;exact⟨x,hx,World.ownsRow.kept hI hg (ne fun g hg=>(World.ownsRow.lt hI g hg).1)⟩
theorem Q6 {w u:World} {b:Nat}(h:Below w.heap.size w u) (hb:w.heap.size≤b) (e:El):Below w.heap.size w (mb u b e) :=
 (((h.setCell hb _).setCell hb _).setCell hb _).setCell hb _
theorem ac.low {u:World} {B B':Nat} {v:Value} {es:List Ent}(h:ac u B' v es) (hB:B≤B'):ac u B v es:=by
 obtain⟨xs,hl,h1,h2⟩:=h;refine⟨xs,hl,?_,fun k e he=>?_⟩
 .obtain⟨h3,h4⟩:=h1
  refine⟨h3,?_⟩;rcases h4 with h4|⟨g,cap,cur,a,b,c⟩
  .exact .inl h4
  .exact .inr ⟨g,cap,cur,a,by omega,c⟩
 .obtain⟨x,hx,hI⟩:=h2 k e he
  exact⟨x,hx,fe hI hB⟩
theorem H6 (w:World) (x:Value) (e:El) (t:TypeId):∀ j u,(gm x e)[j]? = some u→(w.alloc (.cells #[x,.int .i64 e.first,.int .i64 e.second,.int .i64 e.third,.bool e.varies] t)).cell? ((⟨w.heap.size,0,none⟩:Addr).add j)=some u:=by
 intro j u hj;match j,hj with
 | 0,hj=>simp[gm]at hj;subst hj;simp[Addr.add]
 | 1,hj=>simp[gm]at hj;subst hj;simp[Addr.add]
 | 2,hj=>simp[gm]at hj;subst hj;simp[Addr.add]
 | 3,hj=>simp[gm]at hj;subst hj;simp[Addr.add]
 | 4,hj=>simp[gm]at hj;subst hj;simp[Addr.add]
 | j+5,hj=>simp[gm]at hj
theorem C7 (w:World) (n:Nat) (x:Value) (e:El) (t:TypeId) (hn:n=w.heap.size):∀ j u,(gm x e)[j]? = some u→(w.alloc (.cells #[x,.int .i64 e.first,.int .i64 e.second,.int .i64 e.third,.bool e.varies] t)).cell? ((⟨n,0,none⟩:Addr).add j)=some u:=by
 subst hn;exact H6 w x e t
theorem Ar:(prog.info? 117).map (fun i=>(i.zero,i.size,i.bytes))=some (some (.agg #[.slice none 0 0,.int .i64 0,.int .i64 0,.int .i64 0,.bool false]),5,56):=by kernel_rfl
theorem Eh (xs:List Value) (es:List Ent) (x:Value) (e:Ent) (h:xs.length=es.length):eu (xs++[x]) (es++[e])=eu xs es++gm x e.el:=by
 induction es generalizing xs with
 | nil=>cases xs with
  | nil=>rfl
  | cons y ys=>simp at h
 | cons e' es ih=>cases xs with
  | nil=>simp at h
  | cons y ys =>
   show gm y e'.el++eu (ys++[x]) (es++[e])=(gm y e'.el++eu ys es)++_
   rw[ih ys (by simpa using h),List.append_assoc]
theorem ac.snoc {u u':World} {B:Nat} {v v':Value} {es:List Ent} {xs:List Value} {x:Value} {e:Ent}(hl:xs.length=es.length)
  (h2:∀ (k:Nat) (e:Ent),es[k]? = some e→∃ x,xs[k]? = some x∧ab u B x e.runes) (hI:ab u B x e.runes)
  (h1:u.ownsRow B 117 5 v es.length (eu xs es))
  (hg:u.grownBy u' v.ownBlock) (h:u'.ownsRow B 117 5 v' (es.length+1) (eu xs es++gm x e.el)):ac u' B v' (es++[e]):=by
 refine⟨xs++[x],by simp[hl],?_,fun k y hy=>?_⟩
 .rw[Eh xs es x e hl,List.length_append]
  exact h
 .by_cases hk:k<es.length
  .rw[List.getElem?_append_left hk]at hy
   obtain⟨z,hz,a0⟩:=h2 k y hy;have a2:=(List.getElem?_eq_some_iff.1 hz).1;refine⟨z,by rw[List.getElem?_append_left a2];exact hz,World.ownsRow.kept a0 hg (dg a0 h1 (by decide))⟩
  .have a1:k=es.length:=by
    have:=(List.getElem?_eq_some_iff.1 hy).1;simp at this;omega
   subst a1;simp at hy;subst hy;exact⟨x,by rw[<- hl];simp,World.ownsRow.kept hI hg (dg hI h1 (by decide))⟩
def jh (w:World) (B T:Nat) (v:Value) (es:List Ent):Prop :=
 ∃ xs:List Value,xs.length=es.length∧w.ownsRow B 117 5 v es.length (eu xs es)∧(∀ (k:Nat) (e:Ent),es[k]? = some e→∃ x,xs[k]? = some x∧ab w B x e.runes) ∧
  (∀ (i j:Nat) (x y:Value),i≠j→xs[i]? = some x→xs[j]? = some y→x.ownBlock=none∨x.ownBlock≠y.ownBlock) ∧
  (∀ g,v.ownBlock=some g→g<T)∧∀ (i:Nat) (x:Value) (g:Nat),xs[i]? = some x→x.ownBlock=some g→g<T
theorem jh.ents {w:World} {B T:Nat} {v:Value} {es:List Ent}(h:jh w B T v es):ac w B v es:=by
 obtain⟨xs,hl,h1,h2,_⟩:=h;exact⟨xs,hl,h1,h2⟩
theorem jh.nil (w:World) (B T:Nat):jh w B T (.slice none 0 0) []:=⟨[],rfl,⟨rfl,.inl ⟨rfl,rfl⟩⟩,fun k e h=>by simp at h,fun i j x y _ h=>by simp at h,(fun g h=>by simp[Value.ownBlock]at h),(fun i x g h=>by simp at h)⟩
theorem jh.below {w w':World} {B T:Nat} {v:Value} {es:List Ent}(h:jh w B T v es) (hb:Below w.heap.size w w'):jh w' B T v es:=by
 obtain⟨xs,hl,h1,h2,h3,h4,h5⟩:=h;refine⟨xs,hl,World.ownsRow.kept h1 (row:=none) ⟨hb.os,hb.tape,hb.output,hb.size,fun k hk _=>hb.block k hk⟩ (by cases h:v.ownBlock <;> simp),fun k e he=>?_,h3,h4,h5⟩;obtain⟨x,hx,hI⟩:=h2 k e he;exact⟨x,hx,hI.below hb⟩
theorem Po (l:List UInt8) (w:World) :
  Calls prog 185 #[.string ⟨l.toArray⟩,.int .u8 32] w fun e w'=>e=.returned (.string ⟨(l.dropWhile (· == 32)).toArray⟩)∧w'=w:=by
 obtain⟨D,HD⟩:∃ D,Hid (l.dropWhile (· == 32)=D):=⟨_,rfl⟩
 rw[HD.out];go_enter func185,ntmps185;go_wp2;go_loop [0] (fun v=>∃ l':List UInt8,v=.string ⟨l'.toArray⟩∧Hid (l'.dropWhile (· == 32)=D)) (fun v=>Lib.strSize v)
 case atStart=>exact⟨l,rfl,HD⟩
 case round =>
  clear HD;obtain⟨l',rfl,HD⟩:=hrel;match l',HD with
  | [],HD =>
   have h:D=[]:=HD.out.symm.trans rfl;subst h;clear HD;go_wp2;go_ret;exact⟨rfl,rfl⟩
  | b::l2,HD =>
   have a8:(⟨(b::l2).toArray⟩:ByteArray).size=l2.length+1:=rfl;have a3:∀ h,(⟨(b::l2).toArray⟩:ByteArray)[0]'h=b:=fun _=>rfl
   have a9:(⟨(b::l2).toArray⟩:ByteArray).extract 1 (l2.length+1)=⟨l2.toArray⟩:=by
    rw[Lib.extract_mk];simp
   have a7:Hid ((⟨(b::l2).toArray⟩:ByteArray)=⟨(b::l2).toArray⟩):=rfl;have a4:Hid (Lib.strSize (.string ⟨l2.toArray⟩)<Lib.strSize (.string ⟨(b::l2).toArray⟩)):=by
    show _<_
    rw[Lib.strSize_string,Lib.strSize_string,Lib.size_mk,Lib.size_mk];simp
   generalize ht:(⟨(b::l2).toArray⟩:ByteArray)=t at a8 a3 a9 a4 ⊢;have HT:Hid ((⟨(b::l2).toArray⟩:ByteArray)=t):=ht;clear ht a7;have h0:0<t.size:=by omega
   have a1:=a3 h0;clear a3;by_cases a0:b=32
   .have a6:((t[0]'h0).toNat:Int)=32:=by rw[a1,a0];rfl
    have a2:Hid (l2.dropWhile (· == 32)=D):=by
     show _=_
     have:=HD.out;simp[a0]at this
     exact this
    clear HD a1 a0 HT;go_wp2;exact⟨⟨l2,rfl,a2⟩,a4.out⟩
   .have a5:(((t[0]'h0).toNat:Int) == 32)=false:=by
     rw[a1];simp
     intro e;exact a0 (UInt8.toNat_inj.1 (by show b.toNat=32;omega))
    have a2:Hid (D=b::l2):=by
     show _=_
     have:=HD.out;simp[a0]at this
     exact this.symm
    clear HD a1 a0 a4;go_wp2;go_ret;rw[a2.out,HT.out];exact⟨rfl,rfl⟩
theorem ai7 (l:List UInt8) (w:World) :
  Calls prog 165 #[.string ⟨l.toArray⟩,.string ⟨#[32]⟩] w fun e w'=>e=.returned (.string ⟨(l.dropWhile (· == 32)).toArray⟩)∧w'=w:=by
 have A:=fun w=>Po l w
 have HL:Hid (∀ t,(⟨l.toArray⟩:ByteArray)=t→t.toList=[]→l=[]):=fun t h e=>by
  subst h;rw[Lib.toList_data]at e;simpa using e
 obtain⟨D,HD⟩:∃ D,Hid (l.dropWhile (· == 32)=D):=⟨_,rfl⟩
 rw[HD.out]at A ⊢
 cases l with
 | nil =>
  have h:D=[]:=HD.out.symm.trans rfl;subst h;clear HD A HL;go_enter func165,ntmps165;go_wp2;go_ret;exact⟨rfl,rfl⟩
 | cons b l2 =>
  have a1:((⟨(b::l2).toArray⟩:ByteArray).toList == [])=false:=by
   rw[Lib.toList_data];simp
  have a0:(⟨(b::l2).toArray⟩:ByteArray).toList.isEmpty=false:=by
   rw[Lib.toList_data];simp
  have i1:∀ w,(Instr.index 9 (.string ⟨#[32]⟩) (.int .i64 0)).run prog w=.ok (.int .u8 32) w:=fun _=>by kernel_rfl
  generalize (⟨(b::l2).toArray⟩:ByteArray)=t at *;clear HD HL;go_enter func165,ntmps165;go_wp2_with fail;refine (A _).mono ?_;rintro e w1 ⟨rfl,rfl⟩;clear A;go_wp2;go_ret;exact⟨rfl,rfl⟩
theorem Lb (t:ByteArray) (w:World) :
  Calls prog 205 #[.string t,.string ⟨#[32]⟩] w fun e w'=>e=.returned (.int .i64 (Lib.indexByte t.data.toList 32))∧w'=w:=by
 have A:=fun w=>Ci t 32 w
 have i1:∀ w,(Instr.index 9 (.string ⟨#[32]⟩) (.int .i64 0)).run prog w=.ok (.int .u8 32) w:=fun _=>by kernel_rfl
 by_cases h:([32] == t.toList)=true
 .have e:t.data.toList=[32]:=by rw[<- Lib.toList_data];exact (beq_iff_eq.1 h).symm
  have HI:Hid (Lib.indexByte t.data.toList 32=0):=by show _=_;rw[e];rfl
  clear A e;go_enter func205,ntmps205;go_wp2;go_ret;rw[HI.out];exact⟨rfl,rfl⟩
 .have h2:([32] == t.toList)=false:=by simpa using h
  clear h;go_enter func205,ntmps205;go_wp2_with fail;refine (A _).mono ?_;rintro e w1 ⟨rfl,rfl⟩;clear A;go_wp2;go_ret;exact⟨rfl,rfl⟩
def Ag (t:List UInt8):List UInt8 × List UInt8:=(t.takeWhile (· != 32),(t.dropWhile (· != 32)).drop 1)
theorem a02 (l:List UInt8):dn l=Ag (l.dropWhile (· == 32)):=rfl
theorem Rd (t:List UInt8) (ht:t.length≤1048576) (w:World) :
  Calls prog 184 #[.string ⟨t.toArray⟩,.string ⟨#[32]⟩] w fun e w'=>∃ b,e=.returned (.tuple #[.string ⟨(Ag t).1.toArray⟩,.string ⟨(Ag t).2.toArray⟩,.bool b])∧∃ n,w'=w.drewN n:=by
 have A:=fun w=>Lb ⟨t.toArray⟩ w
 have a0:=Lib.indexByte_ge t 32;by_cases c:Lib.indexByte t 32=-1
 .obtain⟨c1,c2⟩:=Mn t c
  unfold Ag;rw[c1,c2];have A2:=fun w=>(c ▸ A w:Calls prog 205 #[.string ⟨t.toArray⟩,.string ⟨#[32]⟩] w fun e w'=>e=.returned (.int .i64 (-1))∧w'=w)
  generalize (⟨t.toArray⟩:ByteArray)=s at *;clear A c a0 c1 c2;go_enter func184,ntmps184;go_wp2_with fail;refine (A2 _).mono ?_;rintro e w1 ⟨rfl,rfl⟩;clear A2;go_wp2;go_ret3
  exact⟨_,rfl,0,rfl⟩
 .obtain⟨i,hi⟩:∃ i:Nat,Lib.indexByte t 32=(i:Int):=⟨(Lib.indexByte t 32).toNat,by omega⟩
  obtain⟨c0,c1,c2⟩:=So t i hi;unfold Ag;rw[c1,c2];have A2:=fun w=>(hi ▸ A w:Calls prog 205 #[.string ⟨t.toArray⟩,.string ⟨#[32]⟩] w fun e w'=>e=.returned (.int .i64 (i:Int))∧w'=w)
  have s1:(⟨t.toArray⟩:ByteArray).extract 0 i=⟨(t.take i).toArray⟩:=by rw[Lib.extract_mk];simp
  have s2:(⟨t.toArray⟩:ByteArray).extract (i+1) t.length=⟨(t.drop (i+1)).toArray⟩:=by
   rw[Lib.extract_mk,List.take_of_length_le (by simp)]
  have a1:(⟨t.toArray⟩:ByteArray).size=t.length:=rfl;rw[<- s1,<- s2];generalize (⟨t.toArray⟩:ByteArray)=s at *;have k1:(i:Int)<(t.length:Int):=by omega
  clear A c a0 c1 c2 s1 s2 hi;go_enter func184,ntmps184;go_wp2_with fail;refine (A2 _).mono ?_;rintro e w1 ⟨rfl,rfl⟩;clear A2;go_wp2_with fail;go_quiet (fail)
  go_wp2;go_ret3
  exact⟨_,rfl,_,rfl⟩
end Go.Proofs.YtjbmgghehdemdaaGreatDoor
