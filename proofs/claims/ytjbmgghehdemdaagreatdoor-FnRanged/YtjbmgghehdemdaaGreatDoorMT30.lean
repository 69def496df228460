/- BlkC -/
import Derived.Test.YtjbmgghehdemdaaGreatDoorMT2
import Derived.OwnWalk
import Derived.ProofKit
namespace Go.Proofs.YtjbmgghehdemdaaGreatDoor
set_option maxRecDepth 100000
set_option maxHeartbeats 16000000
open _root_.Go.Proofs.Tryz
open Go.RowKit
theorem ac.slice {w:World} {B:Nat} {v:Value} {es:List Ent}(h:ac w B v es):∃ a n c,v=.slice a n c:=by
 rcases h.form with ⟨rfl,_⟩|⟨_,_,rfl,_,_,_,_⟩
 .exact⟨_,_,_,rfl⟩
 .exact⟨_,_,_,rfl⟩
def Ff (w:World) (a:Option Addr) (n:Nat):Prop :=
 n=0∨∃ cb off,a=some ⟨cb,off,none⟩∧cb<w.heap.size∧∀ j,j<n→∃ x:Int,0≤x∧x≤255∧w.cell? ⟨cb,off+j,none⟩=some (.int .u8 x)
theorem Ff.below {w w':World} {a:Option Addr} {n:Nat}(h:Ff w a n) (hb:Below w.heap.size w w'):Ff w' a n:=by
 rcases h with h|⟨cb,a0,rfl,h1,h2⟩
 .exact .inl h
 .refine .inr ⟨cb,a0,rfl,Nat.lt_of_lt_of_le h1 hb.size,fun j hj=>?_⟩
  obtain⟨x,x0,x1,hx⟩:=h2 j hj;exact⟨x,x0,x1,by rw[hb.cell (p:=⟨cb,a0+j,none⟩) h1];exact hx⟩
theorem am0 (w:World) (a:Option Addr) (n cap:Nat) (hn:n≤1048576) (h:Ff w a n) :
  Cur (w.alloc (.cells #[.slice a n cap,.int .i64 0,.int .u64 0] 67)) (w.heap.size+1) w.heap.size 0:=by
 refine⟨a,n,cap,0,heap_alloc_new w _,by omega,by simp,hn,by omega,by omega,?_⟩;rcases h with h|⟨cb,a0,rfl,h1,h2⟩
 .exact .inl h
 .refine .inr ⟨cb,a0,rfl,by omega,by omega,fun j hj=>?_⟩
  obtain⟨x,x0,x1,hx⟩:=h2 j hj;exact⟨x,x0,x1,(World.cell?_of_block (w:=w) (a:=⟨cb,a0+j,none⟩) (Below.heap_alloc _ _ _ h1)).trans hx⟩
open Go.ChangeShapes Go.WideShapes Go.ChangeAt Go.WideMaps Go.WideElems Go.RowKit
theorem al9 {w:World} {a:Option Addr} {len cap:Nat} {zs:List Int}(h:Tm .u8 w a len cap zs):Ff w a len:=by
 rcases h with ⟨rfl,rfl,rfl,rfl⟩|⟨x,rfl,hl,hc,hz,a0,a2⟩
 .exact .inl rfl
 .by_cases h0:len=0
  .exact .inl h0
  .obtain⟨b,off,rfl,hc2⟩:=ints_at a0 (by omega)
   have a1:b<w.heap.size:=by
    have h1:=hc2 0 (by omega);apply Classical.byContradiction
    intro hn;have:w.heap[b]? = none:=by simp;omega
    simp[World.cell?,this]at h1
   refine .inr ⟨b,off,rfl,a1,fun j hj=>?_⟩;have hm:zs.getD j 0 ∈ zs:=by
    rw[List.getD_eq_getElem?_getD,List.getElem?_eq_getElem (show j<zs.length by omega)];exact List.getElem_mem _
   have hw:=a2 _ hm;have hx:0≤zs.getD j 0∧zs.getD j 0≤255:=by simpa [Lit.wf,IntKind.min,IntKind.max,IntKind.signed,IntKind.bits] using hw
   exact⟨_,hx.1,hx.2,hc2 j (by omega)⟩
end Go.Proofs.YtjbmgghehdemdaaGreatDoor
