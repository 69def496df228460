/- By6 -/
import Derived.Test.YtjbmgghehdemdaaGreatDoorMT11
import Derived.Laws.BytesString
import Derived.Lib.AppendStr
import Derived.Deep.RegionHeldLaw
import Derived.Deep.RegionLaw
import Derived.Lib.SmallJoins
import Derived.ArgAppend
namespace Go.Proofs.YtjbmgghehdemdaaGreatDoor
set_option maxRecDepth 100000
set_option maxHeartbeats 16000000
open _root_.Go.Proofs.Tryz
open Go.RowKit
theorem Fv:(prog.info? 5).map (fun i=>(i.zero,i.size,i.bytes))=some (some (.int .u8 0),1,1):=by kernel_rfl
def By6 (w:World) (base:Nat) (v:Value) (bs:List Int):Prop:=w.ownsRow base 5 1 v bs.length (bs.map (Value.int .u8))
theorem By6.form {w:World} {B:Nat} {v:Value} {bs:List Int}(h:By6 w B v bs):(v=.slice none 0 0∧bs=[])∨∃ g cap,v=.slice (some ⟨g,0,none⟩) bs.length cap:=by
 rcases h.2 with ⟨a,b⟩|⟨g,cap,cur,a,_⟩
 .exact .inl ⟨a,by simpa using b⟩
 .exact .inr ⟨g,cap,a⟩
theorem By6.below {w w':World} {B:Nat} {v:Value} {bs:List Int}(h:By6 w B v bs) (hb:Below w.heap.size w w'):By6 w' B v bs :=
 World.ownsRow.kept h (row:=none) ⟨hb.os,hb.tape,hb.output,hb.size,fun k hk _=>hb.block k hk⟩ (by cases h:v.ownBlock <;> simp)
theorem By6.app {w:World} {B:Nat} {v:Value} {bs xs:List Int} {n:Nat}(hn:n=xs.length) (h:w.ownsRow B 5 1 v (bs.length+n) (bs.map (Value.int .u8)++xs.map (Value.int .u8))):By6 w B v (bs++xs):=by
 subst hn;unfold By6;simpa using h
theorem a46 (s:ByteArray):Lib.strCells s=(bI s).map (Value.int .u8):=by
 unfold Lib.strCells bI;rw[List.map_map];rfl
theorem By6.str {w:World} {B:Nat} {v:Value} {bs:List Int} {s:ByteArray} {n:Nat}(hn:n=s.size) (h:w.ownsRow B 5 1 v (bs.length+n) (bs.map (Value.int .u8)++Lib.strCells s)):By6 w B v (bs++bI s):=by
 rw[a46]at h;exact By6.app (hn.trans (Gq s).symm) h
theorem ao8 (w:World) (n:Nat) (hn:n=w.heap.size) (cs:List Int) (hc:cs.length≤1000):By6 (w.alloc (.cells (cs.map (Value.int .u8)).toArray 5)) w.heap.size (.slice (some ⟨n,0,none⟩) cs.length cs.length) cs:=by
 subst hn;refine⟨by simp,.inr ⟨w.heap.size,cs.length,(cs.map (Value.int .u8)).toArray,rfl,bR,heap_alloc_new _ _,bR,?_,by simp,?_⟩⟩
 .unfold maxLen;omega
 .apply List.take_of_length_le
  simp
theorem H0 (w:World) (n:Nat) (x y z t:Value) (ty:TypeId) (hn:n=w.heap.size):∀ j u,[x,y,z,t][j]? = some u→(w.alloc (.cells #[x,y,z,t] ty)).cell? ((⟨n,0,none⟩:Addr).add j)=some u:=by
 subst hn;intro j u hj;match j,hj with
 | 0,hj=>simp at hj;subst hj;simp[Addr.add]
 | 1,hj=>simp at hj;subst hj;simp[Addr.add]
 | 2,hj=>simp at hj;subst hj;simp[Addr.add]
 | 3,hj=>simp at hj;subst hj;simp[Addr.add]
 | j+4,hj=>simp at hj
theorem U0 (w:World) (n:Nat) (x:Value) (ty:TypeId) (hn:n=w.heap.size):∀ j u,[x][j]? = some u→(w.alloc (.cells #[x] ty)).cell? ((⟨n,0,none⟩:Addr).add j)=some u:=by
 subst hn;intro j u hj;match j,hj with
 | 0,hj=>simp at hj;subst hj;simp[Addr.add]
 | j+1,hj=>simp at hj
theorem Ej:∀ (xs:List Int) (r:ByteArray),xs.foldl (fun r n=>r.push (UInt8.ofNat n.toNat)) r=⟨r.data++(xs.map fun x=>x.toNat.toUInt8).toArray⟩
 | [],r=>by simp
 | x::xs,r=>by
  simp only[List.map_cons,List.foldl_cons];rw[Ej xs];simp[ByteArray.push]
theorem Gj (b j:Nat):(⟨b,0,none⟩:Addr).add j=⟨b,j,none⟩:=by
 unfold Addr.add;split
 .rename_i h;subst h;rfl
 .simp
theorem a06 (w:World) (n:Nat) (hn:n=w.heap.size) (x y z:Value) (t:TypeId) (fr:Nat × Nat):∀ b,some (⟨n,0,none⟩:Addr)=some b→∀ j u,[x,y][j]? = some u→((w.alloc (.cells #[x,y] t fr)).alloc (.cells #[z] t)).cell? (b.add j)=some u:=by
 subst hn;intro b hb j u hj
 cases hb
 rw[Gj,cell_of_row _ _ j #[x,y] t fr (by rw[Below.heap_alloc _ _ _ (by simp)];exact heap_alloc_new w _)];simpa using hj
theorem Mi {w:World} {B:Nat} {v:Value} {bs:List Int}(h:By6 w B v bs):(convert 22 9 v).run prog w=.ok (.string (byT bs)) w:=by
 rcases h.form with ⟨rfl,rfl⟩|⟨g,cap,rfl⟩
 .rw[run_convert_bytes_string _ _ _ _ _ _ _ underlying22 underlying5 underlying9]
  rfl
 .rw[run_convert_bytes_string _ _ _ _ _ _ _ underlying22 underlying5 underlying9]
  have hl:=run_loadCells_list (P:=prog) w ⟨g,0,none⟩ (bs.map (Value.int .u8)) (fun j v hj=>by
   have a1:j<bs.length:=by have:=(List.getElem?_eq_some_iff.1 hj).1;simpa using this
   rw[Gj,World.ownsRow.cellAt h j (by omega),hj])
  simp only[List.length_map]at hl;rw[run_bytesToString _ _ _ _ bs hl,Ej];have a0:ByteArray.empty.data=#[]:=rfl;rw[a0];simp[byT]
def di (w:World) (b:Nat) (x:Rw):Prop:=w.heap[b]? = some (.cells #[.string x.key,.string x.text,.string x.val] 37)
theorem di.lt {w:World} {b:Nat} {x:Rw}(h:di w b x):b<w.heap.size:=(Array.getElem?_eq_some_iff.1 h).1
theorem di.cells {w:World} {b:Nat} {x:Rw}(h:di w b x):w.cell? ⟨b,0,none⟩=some (.string x.key)∧w.cell? ⟨b,1,none⟩=some (.string x.text)∧w.cell? ⟨b,2,none⟩=some (.string x.val) :=
 ⟨cell_of_row _ _ 0 _ _ _ h,cell_of_row _ _ 1 _ _ _ h,cell_of_row _ _ 2 _ _ _ h⟩
theorem di.below {w w':World} {b:Nat} {x:Rw}(h:di w b x) (hb:Below w.heap.size w w'):di w' b x:=(hb.block b h.lt).trans h
theorem di.ne {w:World} {B b n:Nat} {v:Value} {x:Rw} {xs:List Value}(h:di w b x) (ho:w.ownsRow B 5 1 v n xs):some b≠v.ownBlock:=by
 rcases ho.2 with ⟨rfl,_⟩|⟨g,cap,cur,rfl,_,hg,_⟩
 .intro c;cases c
 .intro c
  have e:b=g:=Option.some.inj c;subst e;unfold di at h;rw[hg]at h;injection h with e1;injection e1 with _ e2 _;exact absurd e2 (by decide)
theorem di.kept {w w':World} {B b n:Nat} {v:Value} {x:Rw} {xs:List Value}(h:di w b x) (ho:w.ownsRow B 5 1 v n xs) (hg:w.grownBy w' v.ownBlock):di w' b x :=
 (hg.block b h.lt (h.ne ho)).trans h
theorem di.alloc {w:World} {b:Nat} {x:Rw}(h:di w b x) (o:Obj):di (w.alloc o) b x:=by
 unfold di;rw[Below.heap_alloc _ _ _ h.lt];exact h
theorem ky (w:World) (x:Rw):di (w.alloc (.cells #[.string x.key,.string x.text,.string x.val] 37)) w.heap.size x:=heap_alloc_new w _
theorem oy {W w w':World} {B n:Nat} {v:Value} {xs:List Value}(hb:Below B W w) (ho:w.ownsRow B 5 1 v n xs) (hg:w.grownBy w' v.ownBlock) (a0:B≤w.heap.size):Below B W w' :=
 Below.grown hb hg a0 (fun j hj=>(World.ownsRow.lt ho j hj).1)
def PgR (w:World) (b:Nat) (t:ByteArray):Prop:=w.heap[b]? = some (.cells #[.string t] 232)
theorem PgR.cell {w:World} {b:Nat} {t:ByteArray}(h:PgR w b t):w.cell? ⟨b,0,none⟩=some (.string t):=cell_of_row _ _ 0 _ _ _ h
theorem PgR.frozen {w:World} {b:Nat} {t:ByteArray}(h:PgR w b t) (j:Nat):w.frozen? ⟨b,j,none⟩=false:=by unfold PgR at h;simp[World.frozen?,h]
theorem PgR.lt {w:World} {b:Nat} {t:ByteArray}(h:PgR w b t):b<w.heap.size:=(Array.getElem?_eq_some_iff.1 h).1
theorem PgR.set {w:World} {b:Nat} {t:ByteArray}(h:PgR w b t) (u:ByteArray):PgR (w.setCell ⟨b,0,none⟩ (.string u)) b u:=by
 unfold PgR at h ⊢;simp[World.setCell,Array.getElem?_modify,h]
theorem PgR.below {w w':World} {b:Nat} {t:ByteArray}(h:PgR w b t) (hb:Below w.heap.size w w'):PgR w' b t:=(hb.block b h.lt).trans h
theorem aq8 {w:World} {b n:Nat} {t:ByteArray}(hb:PgR w b t) (hn:n≤t.size) :
  Calls prog 172 #[.pointer (some ⟨b,0,none⟩),.int .i64 (n:Int)] w fun e w'=>e=.returned (.string (t.extract 0 n))∧w'=w.setCell ⟨b,0,none⟩ (.string (t.extract n t.size)):=by
 have c0:=hb.cell;have f0:=hb.frozen 0;have l0:=hb.lt;have h1:(n:Int)≤(t.size:Int):=by omega
 go_enter func172,ntmps172;go_wp2;go_ret;exact⟨rfl,rfl⟩
theorem aq7 {w:World} {b n:Nat} {t:ByteArray} {ty:TypeId} {pv:Value}(hg:w.cell? ⟨6,0,none⟩=some (.iface ty pv)) (hb:PgR w b t) (hn:t.size<n) :
  Calls prog 172 #[.pointer (some ⟨b,0,none⟩),.int .i64 (n:Int)] w fun e w'=>e=.panicked [{ v:=.iface ty pv,recovered:=false }]∧w'=w:=by
 have c0:=hb.cell;have l0:=hb.lt;have h1:¬ (n:Int)≤(t.size:Int):=by omega
 go_enter func172,ntmps172;go_wp2;exact⟨rfl,rfl,rfl⟩
theorem d5 (s:ByteArray) (n:Nat) (h:n<s.size) (u:World):(Instr.index 9 (.string s) (.int .i64 (n:Int))).run prog u=.ok (.int .u8 ((bAt s n).toNat:Int)) u:=by
 rw[run_index_string (h:=underlying9),dif_pos ⟨by omega,by omega⟩];congr 3
 have h':n<s.data.toList.length:=by rw[Array.length_toList];exact h
 simp only[bAt,List.getD,List.getElem?_eq_getElem h',Option.getD_some,Int.toNat_natCast];rfl
theorem Lp (w:World) (p q:Nat):(w.drewN p).drewN q=w.drewN (p+q):=by rw[World.drewN_drewN]
def az6 (w:World) (a k:ByteArray) (i:Value) (wr:World):Prop :=
 ∃ n q:Nat,i=.int .i64 n∧n≤a.size∧n≤k.size∧n+shL (a.data.toList.drop n) (k.data.toList.drop n)=shB a k∧wr=w.drewN q
theorem Ic (a k:ByteArray) (ha:a.size≤1048576) (_hk:k.size≤1048576) (w:World) :
  Calls prog 183 #[.string a,.string k] w fun e w'=>e=.returned (.int .i64 (shB a k))∧∃ n,w'=w.drewN n:=by
 obtain⟨s,HS⟩:∃ s,Hid (shB a k=s):=⟨_,rfl⟩
 rw[HS.out];go_enter func183,ntmps183;go_wp2;go_loopw [5] (fun i wr=>az6 w a k i wr) (fun i _=>a.size-(intOf i).toNat)
 case atStart=>exact⟨0,0,rfl,Nat.zero_le _,Nat.zero_le _,by simp[shB],rfl⟩
 case round =>
  obtain⟨n,q,rfl,a1,a2,hR,rfl⟩:=hrel;have HR:Hid _:=hR;clear hR;by_cases c1:n<a.size
  .by_cases c2:n<k.size
   .have d1:(n:Int)<(a.size:Int):=by omega
    have d2:(n:Int)<(k.size:Int):=by omega
    have x1:=d5 a n c1;have x2:=d5 k n c2;have e1:=oc c1;have e2:=oc c2;by_cases hb:bAt a n=bAt k n
    .have HN:Hid (n+1+shL (a.data.toList.drop (n+1)) (k.data.toList.drop (n+1))=shB a k):=by
      show _=_
      rw[<- HR.out,e1,e2,shL,if_pos hb];omega
     rw[hb]at x1;clear HR e1 e2 hb HS;go_wp2;go_quiet (fail)
     go_wp2;exact⟨⟨n+1,_,by go_num,c1,c2,HN.out,rfl⟩,by simp[intOf];omega⟩
    .have HN:Hid (n=s):=by
      show _=_
      have:=HR.out;rw[e1,e2,shL,if_neg hb,HS.out]at this;omega
     have a0:((bAt a n).toNat:Int)≠((bAt k n).toNat:Int):=fun h=>hb (UInt8.toNat_inj.1 (by omega))
     generalize ((bAt a n).toNat:Int)=z1 at *;generalize ((bAt k n).toNat:Int)=z2 at *;clear HR e1 e2 hb HS;go_wp2;go_quiet (fail)
     go_wp2;go_ret;rw[HN.out];exact⟨rfl,_,Lp _ _ _⟩
   .have d1:(n:Int)<(a.size:Int):=by omega
    have HN:Hid (n=s):=by
     show _=_
     have:=HR.out;rw[P6 _ _ (yb c2),HS.out]at this;omega
    clear HR HS;go_wp2;have d2:decide ((n:Int)<(k.size:Int))=false:=decide_eq_false (by omega);go_quiet (fail)
    go_wp2;go_ret;rw[HN.out];exact⟨rfl,_,Lp _ _ _⟩
  .have HN:Hid (n=s):=by
    show _=_
    have:=HR.out;rw[P0 _ _ (yb c1),HS.out]at this;omega
   clear HR HS;go_wp2;have d1:decide ((n:Int)<(a.size:Int))=false:=decide_eq_false (by omega);go_quiet (fail)
   go_wp2;go_ret;rw[HN.out];exact⟨rfl,_,Lp _ _ _⟩
theorem Wt (p:ByteArray) (x:Rw):4+(x.key.size:Int)-(shB p x.key:Int)+(x.text.size:Int)+(x.val.size:Int)=((je p x).length:Int):=(sm p x).symm
theorem Ws (p:ByteArray) (x:Rw) (hp:p.size≤1048576) (h0:x.key.size≤1048576) (h1:x.text.size≤1048576) (h2:x.val.size≤1048576) (w:World) :
  Calls prog 181 #[.string p,.agg #[.string x.key,.string x.text,.string x.val]] w fun e w'=>e=.returned (.int .i64 ((je p x).length:Int))∧Below w.heap.size w w':=by
 have SH:=fun u=>Ic p x.key hp h0 u
 have a0:=E3 p x.key;have HL:Hid _:=Wt p x;have HB:Hid (∀ o n,Below w.heap.size w ((w.alloc o).drewN n)):=fun o n=>⟨((Below.refl w.heap.size w).alloc bR o).os,((Below.refl w.heap.size w).alloc bR o).tape,((Below.refl w.heap.size w).alloc bR o).output,((Below.refl w.heap.size w).alloc bR o).size,((Below.refl w.heap.size w).alloc bR o).block⟩
 generalize (je p x).length=L at *;generalize shB p x.key=s at *;go_enter func181,ntmps181;go_wp2;go_quiet ((go_at_call 183;exact (SH _).mono fun e w' h=>⟨h.1,by obtain⟨n,hn⟩:=h.2;exact⟨_,hn.trans (Lp _ _ _)⟩⟩))
 go_wp2;go_ret;have e:=HL.out;exact⟨by rw[<- e];rfl,HB.out _ _⟩
def ay9 (w:World) (l:List Rw) (v3 v4 i:Value) (wr:World):Prop :=
 ∃ k:Nat,k≤l.length∧i=.int .i64 k∧v3=.int .i64 ((3+(eh ⟨#[]⟩ (l.take k)).length:Nat):Int)∧v4=.string (ie ⟨#[]⟩ (l.take k))∧Below w.heap.size w wr
theorem a12 (l:List Rw):(et l).length=3+(eh ⟨#[]⟩ l).length:=by
 unfold et;rw[List.length_append];rfl
theorem Rh {w:World} {a:Option Addr} {l:List Rw} {cap:Nat}(hS:dd w a l) (hB:RwB l) :
  Calls prog 204 #[.slice a l.length cap] w fun e w'=>e=.returned (.int .i64 ((et l).length:Int))∧Below w.heap.size w w':=by
 have hl:=hB.1;have HB:Hid (RwB l):=hB;have HP:Hid _:=a12 l;clear hB;generalize (et l).length=P at *;go_enter func204,ntmps204;go_wp2;go_loopw [3,4,9] (fun v3 v4 i wr=>ay9 w l v3 v4 i wr) (fun _ _ i _=>l.length-(intOf i).toNat)
 case atStart=>exact⟨0,Nat.zero_le _,rfl,rfl,rfl,bX⟩
 case round =>
  obtain⟨k,hk,rfl,rfl,rfl,hb⟩:=hrel;by_cases a5:k<l.length
  .obtain⟨x,hx⟩:∃ x,l[k]? = some x:=⟨_,List.getElem?_eq_getElem a5⟩
   have a8:=hS.below hb bR;rcases a8 with rfl|⟨b,o,rfl,hE⟩
   .simp at hx
   obtain⟨a0,a1,a2⟩:=hE k x hx;have aa:=ag a0;have ah:(k:Int)<(l.length:Int):=by omega
   have a4:=hb.alloc hb.size (.cells #[.string x.key,.string x.text,.string x.val] 37);have a6:=HB.out.at hx;have ad:=uu HB.out k;have ae:=zi HB.out k;have ac:=F7 (p:=ie ⟨#[]⟩ (l.take k)) a6;have RL:=fun u=>Ws (ie ⟨#[]⟩ (l.take k)) x (by omega) (by omega) (by omega) (by omega) u
   have HR:Hid _:=Bc ⟨#[]⟩ hx;have HK:Hid _:=Av ⟨#[]⟩ hx;have a3:Hid _:=a4;have a9:wr.heap.size<(wr.alloc (.cells #[.string x.key,.string x.text,.string x.val] 37)).heap.size:=by simp
   have bc:(wr.alloc (.cells #[.string x.key,.string x.text,.string x.val] 37)).cell? ⟨wr.heap.size,0,none⟩=some (.string x.key):=by simp
   obtain⟨m,HM⟩:∃ m,Hid (m=3+(eh ⟨#[]⟩ (l.take k)).length):=⟨_,rfl⟩
   rw[<- HM.out];have hm:m≤200000:=by have:=HM.out;omega
   obtain⟨n,HN⟩:∃ n,Hid (n=(je (ie ⟨#[]⟩ (l.take k)) x).length):=⟨_,rfl⟩
   rw[<- HN.out]at RL;have hn:n≤769:=by have:=HN.out;omega
   generalize ie ⟨#[]⟩ (l.take k)=pk at *;have BC:Hid _:=bc;clear hE hx hS hb a4 a6 ad ae ac bc;go_wp2_with fail;refine (RL _).mono ?_;rintro e w3 ⟨rfl,b3⟩;have af:w3.cell? ⟨wr.heap.size,0,none⟩=some (.string x.key):=by rw[b3.cell a9];exact BC.out
   have a7:Hid (Below w.heap.size w w3):=a3.out.trans (b3.mono a3.out.size);clear BC a3 b3 RL a0 a1 a2 aa;go_wp2;refine⟨⟨k+1,a5,by go_num,?_,by rw[HK.out],a7.out⟩,by simp[intOf];omega⟩;rw[HR.out,List.length_append,<- HN.out,<- Nat.add_assoc,<- HM.out];go_num
  .have ab:k=l.length:=by omega
   subst ab;rw[Bk,<- HP.out];clear hS;go_wp2;go_ret;exact⟨rfl,hb⟩
theorem an0 {w:World} {a:Option Addr} {l:List Rw} {cap:Nat}(hS:dd w a l) (hB:RwB l) :
  Calls prog 182 #[.slice a l.length cap] w fun e w'=>e=.returned (.bool (decide ((et l).length≤300)))∧Below w.heap.size w w':=by
 have PL:=Rh (cap:=cap) hS hB;have HD:Hid (decide (((et l).length:Int)≤300)=decide ((et l).length≤300)):=by
  show _=_
  by_cases h:(et l).length≤300
  .rw[decide_eq_true h,decide_eq_true (by omega)]
  .rw[decide_eq_false h,decide_eq_false (by omega)]
 generalize (et l).length=P at *;clear hS hB;go_enter func182,ntmps182;go_wp2_with fail;refine PL.mono ?_;rintro e w3 ⟨rfl,b3⟩;clear PL;go_wp2;go_ret;have e:=HD.out;exact⟨by rw[<- e];rfl,b3⟩
theorem ii {B:Nat} {w u:World}(h:Below B w u) (n:Nat):Below B w (u.drewN n):=⟨h.os,h.tape,h.output,h.size,h.block⟩
def ay1 (w:World) (l:List Rw) (i:Value) (wr:World):Prop:=∃ k:Nat,k≤l.length∧i=.int .i64 k∧(∀ j,j<k→lq l j=true)∧Below w.heap.size w wr
theorem Vf {w:World} {a:Option Addr} {l:List Rw} {cap:Nat}(hS:dd w a l) (hl:l.length≤9223372036854775807) :
  Calls prog 160 #[.slice a l.length cap] w fun e w'=>e=.returned (.bool (dm l))∧Below w.heap.size w w':=by
 by_cases a6:l.length≤60
 .obtain⟨ans,HANS⟩:∃ ans,Hid (dm l=ans):=⟨_,rfl⟩
  rw[HANS.out];go_enter func160,ntmps160;go_wp2;go_loopw [10] (fun i wr=>ay1 w l i wr) (fun i _=>l.length-(intOf i).toNat)
  case atStart=>exact⟨0,Nat.zero_le _,rfl,fun j hj=>by omega,bX⟩
  case round =>
   obtain⟨k,hk,rfl,hR,hb⟩:=hrel;have HR:Hid _:=hR;clear hR;by_cases a3:k<l.length
   .obtain⟨x,hx⟩:∃ x,l[k]? = some x:=⟨_,List.getElem?_eq_getElem a3⟩
    have a7:=hS.below hb bR;rcases a7 with rfl|⟨b,o,rfl,hE⟩
    .simp at hx
    obtain⟨a0,a1,a2⟩:=hE k x hx;have a9:=ag a0;have ad:(k:Int)<(l.length:Int):=by omega
    have HB:Hid (∀ o n,Below w.heap.size w ((wr.alloc o).drewN n)):=fun o n=>ii (hb.alloc hb.size o) n
    have a5:Hid (∀ o,Below w.heap.size w (wr.alloc o)):=fun o=>hb.alloc hb.size o
    clear hS hb;by_cases c0:x.key.size≤200
    .by_cases c1:x.text.size≤80
     .by_cases c2:x.val.size≤80
      .have hz:=Gd c0 c1 c2
       have d0:¬ (200:Int)<(x.key.size:Int):=by omega
       have d1:¬ (80:Int)<(x.text.size:Int):=by omega
       have d2:¬ (80:Int)<(x.val.size:Int):=by omega
       cases k with
       | zero =>
        simp only[Nat.zero_mul,Nat.add_zero]at a0 a1 a2;have HN:Hid _:=yh HR.out (by rw[Ko hx];exact hz);clear hE hx HR hz HANS c0 c1 c2;go_wp2;go_quiet (fail)
        go_wp2;exact⟨⟨1,by omega,by go_num,HN.out,HB.out _ _⟩,by simp[intOf];omega⟩
       | succ j =>
        obtain⟨y,hy⟩:∃ y,l[j]? = some y:=⟨_,List.getElem?_eq_getElem (by omega)⟩
        obtain⟨p0,_,_⟩:=hE j y hy;have aa:(((j+1:Nat):Int)-1).toNat=j:=by omega
        have ab:((j+1:Nat):Int)-1=(j:Int):=by omega
        have ac:(j:Int)<(l.length:Int):=by omega
        have a4:=Kn hx hy;rw[hz,Bool.true_and]at a4
        cases hlk:ltK y.key x.key
        .have HF:Hid (ans=false):=by show _=_;rw[<- HANS.out];exact n5 a3 (a4.trans hlk)
         unfold ltK at hlk;clear hE hx hy HR hz HANS c0 c1 c2 a4;go_wp2;go_quiet (fail)
         go_wp2;go_ret;rw[HF.out];exact⟨rfl,HB.out _ _⟩
        .have HN:Hid _:=yh HR.out (a4.trans hlk)
         unfold ltK at hlk;clear hE hx hy HR hz HANS c0 c1 c2 a4;go_wp2;go_quiet (fail)
         go_wp2;exact⟨⟨j+1+1,by omega,by go_num,HN.out,HB.out _ _⟩,by simp[intOf];omega⟩
      .have d0:¬ (200:Int)<(x.key.size:Int):=by omega
       have d1:¬ (80:Int)<(x.text.size:Int):=by omega
       have d2:(80:Int)<(x.val.size:Int):=by omega
       have HF:Hid (ans=false):=by show _=_;rw[<- HANS.out];exact n5 a3 (wk hx (Tg c2))
       clear hE hx HR HANS c0 c1 c2;go_wp2;go_ret;rw[HF.out];exact⟨rfl,a5.out _⟩
     .have d0:¬ (200:Int)<(x.key.size:Int):=by omega
      have d1:(80:Int)<(x.text.size:Int):=by omega
      have HF:Hid (ans=false):=by show _=_;rw[<- HANS.out];exact n5 a3 (wk hx (Pl c1))
      clear hE hx HR HANS c0 c1;go_wp2;go_ret;rw[HF.out];exact⟨rfl,a5.out _⟩
    .have d0:(200:Int)<(x.key.size:Int):=by omega
     have HF:Hid (ans=false):=by show _=_;rw[<- HANS.out];exact n5 a3 (wk hx (Tf c0))
     clear hE hx HR HANS c0;go_wp2;go_ret;rw[HF.out];exact⟨rfl,a5.out _⟩
   .have a8:k=l.length:=by omega
    subst a8;have HF:Hid (ans=true):=by show _=_;rw[<- HANS.out];exact ue a6 HR.out
    clear hS HR HANS;go_wp2;go_ret;rw[HF.out];exact⟨rfl,hb⟩
 .have hc:¬ (l.length:Int)≤60:=by omega
  rw[Hh a6];clear hS;go_enter func160,ntmps160;go_wp2;go_ret;exact⟨rfl,bX⟩
theorem Ih {w:World} {a6:Array Oper} {o:Oper} {a:Act} {K:Act→World→Prop} {Q:Exit→Act→World→Prop} {E:Prop}(a2:o.guard=none) (sl x:Operand)
  (ho:o.op=.call { callee:=.builtin .append,args:=#[sl,x],argTypes:=#[22,9] }) (base:Nat)
  (v:Value) (bs:List Int) (hs:a.eval sl=v) (a1:By6 w base v bs) (s:ByteArray) (hx:a.eval x=.string s) (a7:bs.length+s.size≤1099511627776) (a0:base≤w.heap.size)
  (h:∀ v' w',By6 w' base v' (bs++bI s)→w.grownBy w' v.ownBlock→K (a.put o.dst v') w') :
  if Region.wanted o (yielded a6 a.tmps)=true then Oper.wp prog o a w K Q else E:=by
 rw[if_pos (by simp[Region.wanted,a2])];obtain⟨i0,hi0,a5,a3,a4⟩:=info_parts Fv;obtain⟨v',w',hr,h2,h3,h4⟩:=Lib.run_append_own_string (P:=prog) w base 22 9 o.type 5 i0 underlying22 underlying9 hi0 a5 a3 a4 v bs.length _ a1 s (by unfold maxLen;omega) (by omega) a0;unfold Oper.wp execOp;simp only[ho,resolve,invoke,builtin,Sem.run_bind,Sem.run_pure,Result.andThen_ok,List.map_toArray,List.map_cons,List.map_nil,hs,hx,hr];exact h v' w' (By6.str rfl h2) h3
theorem Na {w w':World} {row:Option Nat}(h:w.drew.grownBy w' row):w.grownBy w' row:=⟨h.os,h.tape,h.output,h.size,h.block⟩
def ay3 (W:World) (B:Nat) (l:List Rw) (v4 v5 i:Value) (wr:World):Prop :=
 ∃ k:Nat,k≤l.length∧i=.int .i64 k∧By6 wr B v4 ([80,71,(l.length:Int)]++eh ⟨#[]⟩ (l.take k))∧v5=.string (ie ⟨#[]⟩ (l.take k))∧Below B W wr
theorem a14 {l:List Rw}(h:ko l=true):pbT l=byT (et l):=by unfold pbT;rw[if_pos h]
theorem Oe {l:List Rw}(h:ko l=false):pbT l=⟨#[]⟩:=by unfold pbT;rw[h];rfl
theorem U6 {w w':World}(n:Nat) (h:w'=w.drewN n):Below w.heap.size w w':=by subst h;exact⟨rfl,rfl,rfl,bR,fun _ _=>rfl⟩
theorem ag2 (p:ByteArray) (x:Rw):je p x=[(shB p x.key:Int),(x.key.size:Int)-(shB p x.key:Int),(x.text.size:Int),(x.val.size:Int)]++bI (x.key.extract (shB p x.key) x.key.size++x.text++x.val):=by
 unfold je;rw[Jf,Jf,List.append_assoc,List.append_assoc,List.append_assoc]
theorem Vg {w:World} {a:Option Addr} {l:List Rw} {cap:Nat}(hS:dd w a l) (hl:l.length≤1048576) :
  Calls prog 163 #[.slice a l.length cap] w fun e w'=>e=.returned (.tuple #[.string (pbT l),.bool (ko l)])∧Below w.heap.size w w':=by
 have GR:=Vf (cap:=cap) hS (by omega);by_cases h0:l.length=0
 .have a3:ko l=false:=by unfold ko;rw[h0];rfl
  rw[a3,Oe a3,h0];clear GR hS a3;go_enter func163,ntmps163;go_wp2;go_ret2;exact⟨rfl,bX⟩
 .have aM:((l.length:Int) == 0)=false:=by rw[beq_eq_false_iff_ne];omega
  cases hg:dm l
  .have a3:ko l=false:=by unfold ko;rw[hg,Bool.and_false];rfl
   rw[a3,Oe a3];rw[hg]at GR;clear hS a3 hg;go_enter func163,ntmps163;go_wp2_with fail;refine GR.mono ?_;rintro e w2 ⟨rfl,b2⟩;clear GR;go_wp2;go_ret2;exact⟨rfl,b2⟩
  .have hB:=ud hg
   rw[hg]at GR;have FT:=fun (u:World) (hu:Below w.heap.size w u)=>an0 (cap:=cap) (hS.below hu bR) hB
   by_cases hf:(et l).length≤300
   .have a3:ko l=true:=by unfold ko;rw[hg,decide_eq_true hf,show (l.length == 0)=false from by simpa using h0];rfl
    rw[a3,a14 a3];rw[decide_eq_true hf]at FT;have HB:Hid (RwB l):=hB;have aK:=hB.1;clear a3 hg hB hf;obtain⟨i0,hi0,ap,am,ao⟩:=info_parts Fv;go_enter func163,ntmps163;go_wp2_with fail;refine GR.mono ?_;rintro e w2 ⟨rfl,b2⟩;have F2:=FT _ b2;clear GR FT;go_wp2_with fail;refine F2.mono ?_;rintro e w3 ⟨rfl,b3⟩;have B3:Below w.heap.size w w3:=b2.trans (b3.mono b2.size);have a5:Hid (dd w3 a l):=hS.below B3 bR;have aP:=B3.size;clear F2 b2 b3 hS;have CV:=Joins.run_convert_bytes_const_at (P:=prog) w3 22 5 #[.int .u8 80,.int .u8 71] 2 2 w3.heap.size rfl underlying22 underlying5
    go_wp2_with (at_builtin;refine wpList_append_grows _ rfl _ _ 22 rfl 5 i0 (.int .u8 0) 1 1 underlying22 hi0 ap am ao rfl (by decide) (some ⟨w3.heap.size,0,none⟩) 2 2 [.int .u8 80,.int .u8 71] rfl (fun h=>by cases h) rfl (a06 _ _ rfl _ _ _ _ _) ⟨w3.heap.size+1,0,none⟩ 1 1 [.int .u8 (l.length:Int)] rfl rfl (U0 _ _ _ _ (by simp)) (fun u hu=>by simp at hu;subst hu;rfl) (by decide) (by unfold maxLen;omega) (by omega) ?_)
    intro v4 w4 ak ah;have I4:By6 w4 w3.heap.size v4 ([80,71]++[(l.length:Int)]):=By6.app (n:=1) rfl (Joins.ownsRow_le ak (by omega));have B4:Below w3.heap.size w3 w4:=Below.grown (((Below.refl w3.heap.size w3).alloc bR _).alloc (by simp) _) ah (by simp;omega) (fun j hj=>by cases hj);have ab:Hid (By6 _ _ _ _):=I4;have aa:Hid _:=B4;have a9:Hid _:=B3;clear CV ak ah I4 B4 B3;go_wp2;go_loopw [4,5,31] (fun v4 v5 i wr=>ay3 w3 w3.heap.size l v4 v5 i wr) (fun _ _ i _=>l.length-(intOf i).toNat)
    case atStart=>exact⟨0,Nat.zero_le _,rfl,ab.out,rfl,aa.out⟩
    case round =>
     clear ab aa;obtain⟨k,hk,rfl,hY,rfl,hb⟩:=hrel;by_cases aj:k<l.length
     .obtain⟨x,hx⟩:∃ x,l[k]? = some x:=⟨_,List.getElem?_eq_getElem aj⟩
      have ay:=a5.out.below hb bR;rcases ay with rfl|⟨b,o,rfl,hE⟩
      .simp at hx
      obtain⟨a0,a1,a2⟩:=hE k x hx;have az:=ag a0;have aJ:(k:Int)<(l.length:Int):=by omega
      have aG:=HB.out.at hx;have aO:=uu HB.out k;have aD:=zi HB.out k;have HR:Hid _:=Bc ⟨#[]⟩ hx;have HK:Hid _:=Av ⟨#[]⟩ hx;have aN:([80,71,(l.length:Int)]++eh ⟨#[]⟩ (l.take k)).length≤196098:=by rw[List.length_append];simp;omega
      have BX:Below w3.heap.size w3 (wr.alloc (.cells #[.string x.key,.string x.text,.string x.val] 37)):=hb.alloc hb.size _;have YX:By6 (wr.alloc (.cells #[.string x.key,.string x.text,.string x.val] 37)) w3.heap.size _ _:=hY.below (bY _);have XX:di _ _ _:=ky wr x;have aw:Hid ([80,71,(l.length:Int)]++eh ⟨#[]⟩ (l.take (k+1))=([80,71,(l.length:Int)]++eh ⟨#[]⟩ (l.take k))++je (ie ⟨#[]⟩ (l.take k)) x):=by show _=_;rw[HR.out,List.append_assoc]
      generalize ie ⟨#[]⟩ (l.take k)=pk at *;generalize [80,71,(l.length:Int)]++eh ⟨#[]⟩ (l.take k)=bs at *;obtain⟨y0,y1,y2⟩:=aG;have SH:=fun u=>Ic pk x.key (by omega) (by omega) u
      have aF:=E3 pk x.key;have ax:Hid _:=ag2 pk x;generalize shB pk x.key=n at *;have a6:Hid _:=BX;have ae:Hid (By6 _ _ _ _):=YX;have ad:Hid (di _ _ _):=XX;obtain⟨bx,ac⟩:∃ bx,Hid (bx=wr.heap.size):=⟨_,rfl⟩
      have aI:Hid (dd w3 (some ⟨b,o,none⟩) l):=a5.out;clear hE hx hb hY HR aD BX YX XX a5;go_wp2_with fail;refine (SH _).mono ?_;rintro e w5 ⟨rfl,nq,h5⟩;have b5:=U6 nq h5;have Y5:=ae.out.below b5;have X5:=ad.out.below b5;have B5:Below w3.heap.size w3 w5:=a6.out.trans (b5.mono a6.out.size);clear h5 b5 ae ad a6 SH a0 a1 a2 az;rw[<- ac.out]at X5;rw[<- ac.out];obtain⟨q0,q1,q2⟩:=X5.cells;have a8:=X5.lt;have aE:=B5.size;unfold By6 at Y5
      go_wp2_with (at_builtin;refine wpList_append_own _ rfl _ _ 22 rfl w3.heap.size 5 i0 (.int .u8 0) 1 1 underlying22 hi0 ap am ao rfl (by decide) _ _ _ rfl (Y5.alloc _) ⟨w5.heap.size,0,none⟩ 4 4 [.int .u8 (n:Int),.int .u8 ((x.key.size:Int)-(n:Int)),.int .u8 (x.text.size:Int),.int .u8 (x.val.size:Int)] rfl rfl (H0 _ _ _ _ _ _ _ (by simp)) (fun u hu=>by simp at hu;rcases hu with rfl|rfl|rfl|rfl <;> rfl) (by unfold maxLen;omega) (by omega) (by simp;omega) ?_)
      intro v6 w6 al a7 _;have X6:=(X5.alloc (.cells #[.int .u8 (n:Int),.int .u8 ((x.key.size:Int)-(n:Int)),.int .u8 (x.text.size:Int),.int .u8 (x.val.size:Int)] 5)).kept (Y5.alloc _) a7;have B6:Below w3.heap.size w3 w6:=oy (B5.alloc B5.size _) (Y5.alloc _) a7 (by simp;omega);have I6:By6 w6 w3.heap.size v6 (bs++[(n:Int),(x.key.size:Int)-(n:Int),(x.text.size:Int),(x.val.size:Int)]):=By6.app (n:=4) rfl al;clear q0 q1 q2 a8 a7 al Y5 X5 B5 aE;have aL:(bs++[(n:Int),(x.key.size:Int)-(n:Int),(x.text.size:Int),(x.val.size:Int)]).length≤196102:=by simp only[List.length_append,List.length_cons,List.length_nil];omega
      obtain⟨q0,q1,q2⟩:=X6.cells;have a8:=X6.lt;have an:=B6.size;generalize hbs6:bs++[(n:Int),(x.key.size:Int)-(n:Int),(x.text.size:Int),(x.val.size:Int)]=b6 at *;have au:Hid _:=hbs6;have af:(x.key.extract n x.key.size++x.text++x.val).size≤1000:=by rw[ByteArray.size_append,ByteArray.size_append,xh _ _ aF];omega
      have HZ:Hid _:=af;have YD:∀ u:World,u.heap=w6.heap→By6 u w3.heap.size v6 b6:=fun u hu=>by unfold By6 World.ownsRow;rw[hu];exact I6
      clear hbs6 af;go_wp2_with fail;have aA:¬ 9223372036854775807<x.key.size-n+x.text.size:=by omega
      have aB:¬ 9223372036854775807<x.key.size-n+x.text.size+x.val.size:=by omega
      go_region_law (refine Ih rfl (.tmp 58) (.tmp 68) rfl w3.heap.size v6 b6 rfl (YD _ rfl) (x.key.extract n x.key.size++x.text++x.val) rfl (by have:=HZ.out;omega) (by simpa using an) ?_;intro v7 w7 I7 ai)
      all_goals
       have a4:w6.grownBy w7 v6.ownBlock:=Na ai;have X7:=X6.kept I6 a4;have B7:Below w3.heap.size w3 w7:=oy B6 I6 a4 an;obtain⟨r0,r1,r2⟩:=X7.cells;have aH:=X7.lt;have av:Hid (By6 _ _ _ _):=I7;have aq:Hid _:=B7;clear I7 X7 B7 ai a4 q0 q1 q2 a8 YD I6 X6 B6 aA aB;go_wp2;refine⟨⟨k+1,aj,by go_num,?_,by rw[HK.out],aq.out⟩,by simp[intOf];omega⟩;rw[aw.out,ax.out,<- List.append_assoc,au.out];exact av.out
     .have aC:k=l.length:=by omega
      subst aC;rw[Bk]at hY;have CV:=Mi hY;rw[show [80,71,(l.length:Int)]++eh ⟨#[]⟩ l=et l from rfl]at CV;have ar:Hid (Below w.heap.size w wr):=a9.out.trans (hb.mono a9.out.size);clear a5 hY;go_wp2;go_ret2;exact⟨rfl,ar.out⟩
   .have a3:ko l=false:=by unfold ko;rw[decide_eq_false hf,Bool.and_false]
    rw[a3,Oe a3];rw[decide_eq_false hf]at FT;clear hS a3 hg hB hf;go_enter func163,ntmps163;go_wp2_with fail;refine GR.mono ?_;rintro e w2 ⟨rfl,b2⟩;have F2:=FT _ b2;clear GR FT;go_wp2_with fail;refine F2.mono ?_;rintro e w3 ⟨rfl,b3⟩;clear F2;go_wp2;go_ret2;exact⟨rfl,b2.trans (b3.mono b2.size)⟩
end Go.Proofs.YtjbmgghehdemdaaGreatDoor
