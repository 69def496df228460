/- Copy6 -/
import Derived.Test.YtjbmgghehdemdaaGreatDoorMS12
import Derived.Laws.CopyOwn
import Derived.OwnWalk
import Derived.Deep.RegionHeld
namespace Go.Proofs.YtjbmgghehdemdaaGreatDoor
set_option maxRecDepth 100000
set_option maxHeartbeats 16000000
open _root_.Go.Proofs.Tryz
open Go.RowKit
theorem Na {P:Program}(w:World) (e x ty c:TypeId) (g n h:Nat) (a:Addr) (l:Nat) (b:Array Value) (t:TypeId) (cs:List Value) (S:Nat)
  (u:P.underlying e=some (.slice c)) (f:(P.info? c).map (·.size)=some S)
  (o:w.heap[g]? = some (.cells b t (0,0))) (s:cs.length=n*S)
  (k:∀ j v,cs[j]? = some v->w.cell? (a.add j)=some v) (y:cs.length=b.size) (h1:∀ v ∈ cs,v.oneCell'=true) :
  (Builtin.copy_ #[e,x] ty #[.slice (some ⟨g,0,none⟩) n h,.slice (some a) n l]).run P w=.ok (goInt n) (w.setRow g cs.toArray):=by
 have q:=run_loadCells_list (P:=P) w a cs k;have d:=run_storeCells_at P g 0 t cs 0 b w o (by simp;omega) h1;have m:b.toList.take (0+0)++cs++b.toList.drop (0+0+cs.length)=cs:=by
  have:b.toList.drop (0+0+cs.length)=[]:=List.drop_eq_nil_of_le (by simp;omega);rw[this];simp
 rw[m]at d;have r:Nat.min n n=n:=Nat.min_self n
 cases hq:P.info? c with
 | none=>simp[hq]at f
 | some i =>
  have p:i.size=S:=by simpa [hq] using f
  simp[Builtin.copy_,run_underlying u,Builtin.lenOf,Builtin.firstCells,sizeOf,typeInfo,hq,p,r,<- s,q,d]
theorem Im {P:Program} {w:World} {i:Array Oper} {rest:List Oper} {o:Oper} {a:Act} {Q:Exit->Act->World->Prop}(r:o.guard=none) (d s:Operand) (e m:TypeId)
  (C:o.op=.call { callee:=.builtin .copy,args:=#[d,s],argTypes:=#[e,m] }) (c:TypeId) (E:P.underlying e=some (.slice c)) (S:Nat) (y:(P.info? c).map (·.size)=some S)
  (g n f:Nat) (ad:Addr) (k:Nat) (hd:a.eval d=.slice (some ⟨g,0,none⟩) n f) (D:a.eval s=.slice (some ad) n k)
  (b:Array Value) (t:TypeId) (l:w.heap[g]? = some (.cells b t (0,0))) (cs:List Value) (A:cs.length=n*S)
  (x:∀ j v,cs[j]? = some v->w.cell? (ad.add j)=some v) (q:cs.length=b.size) (h1:∀ v ∈ cs,v.oneCell'=true) (B:Nat) (w0:World) (z:Below B w0 w) (p:B<=g)
  (h:∀ w',Hid (w'.heap[g]? = some (.cells cs.toArray t (0,0)))->Below B w0 w'->wpList P i Q rest (a.put o.dst (goInt n)) w'):wpList P i Q (o::rest) a w:=by
 refine wpList_plain r fun K hK=>?_
 have u:=Na (P:=P) w e m o.type c g n f ad k b t cs S E y l A x q h1;unfold Oper.wp;simp[execOp,C,resolve,invoke,builtin,hd,D,u,Result.andThen]
 exact hK _ _ (h _ (show _=_ from setRow_heap w g _ _ t _ l) (below_setRow z p _))
theorem Da (w:World) (a b:Option Addr) (c d:Nat):Calls prog 12 #[.slice a 0 c,.slice b 0 d] w fun e w'=>e=.returned (.bool true)/\Below w.heap.size w w':=by
 go_enter func12,ntmps12;go_wp2;go_loopw [13] (fun i wr=>i=.int .i64 0/\wr=w) (fun _ _=>0)
 case atStart=>exact⟨rfl,rfl⟩
 case round =>
  obtain⟨rfl,rfl⟩:=hrel;go_wp2;go_ret;exact⟨rfl,bX⟩
def bd4 (w:World) (n:Nat) (i:Value) (wr:World):Prop:=∃ k:Nat,k<=n/\i=.int .i64 k/\Below w.heap.size w wr
theorem ac1 (w:World) (B f g g' cap c:Nat) (es:List Rw) (t:es.length<=1048576) (h1:Rws w B (.slice (some ⟨g,0,none⟩) es.length cap) es) (h2:Rws w f (.slice (some ⟨g',0,none⟩) es.length c) es) :
  Calls prog 12 #[.slice (some ⟨g,0,none⟩) es.length cap,.slice (some ⟨g',0,none⟩) es.length c] w fun e w'=>e=.returned (.bool true)/\Below w.heap.size w w':=by
 have r:=(World.ownsRow.lt h1 g rfl).2;have h:=(World.ownsRow.lt h2 g' rfl).2;go_enter func12,ntmps12;go_wp2;go_loopw [13] (fun i wr=>bd4 w es.length i wr) (fun i _=>es.length-(intOf i).toNat)
 case atStart=>exact⟨0,Nat.zero_le _,rfl,bX⟩
 case round =>
  obtain⟨k,s,rfl,a⟩:=hrel;by_cases d:k<es.length
  .obtain⟨e,b⟩:∃ e,es[k]? = some e:=⟨_,List.getElem?_eq_getElem d⟩
   obtain⟨l,m,n⟩:=(h1.below a).cells k e b;obtain⟨o,p,q⟩:=(h2.below a).cells k e b;have j:(k:Int)<(es.length:Int):=by omega
   clear b h1 h2;go_wp2_with fail;go_region
   all_goals
    go_wp2;exact⟨⟨k+1,by omega,by go_num,a.drew⟩,by simp[intOf];omega⟩
  .go_wp2
   go_ret;exact⟨rfl,a⟩
theorem ac0 {w:World} {B f:Nat} {a b:Value} {es:List Rw}(k:es.length<=1048576) (i:Rws w B a es) (c:Rws w f b es) :
  Calls prog 12 #[a,b] w fun e w'=>e=.returned (.bool true)/\Below w.heap.size w w':=by
 rcases i.form with ⟨rfl,rfl⟩|⟨g,j,rfl,l,m⟩
 .rcases c.form with ⟨rfl,_⟩|⟨h,d,rfl,_,_⟩
  .exact Da w _ _ _ _
  .exact Da w _ _ _ _
 .rcases c.form with ⟨rfl,rfl⟩|⟨h,d,rfl,_,_⟩
  .exact Da w _ _ _ _
  .exact ac1 w B f g h j d es k i c
end Go.Proofs.YtjbmgghehdemdaaGreatDoor
