/- IBytes6 -/
import Derived.Test.YtjbmgghehdemdaaGreatDoorMT19
import Derived.Test.YtjbmgghehdemdaaGreatDoorMT20
import Derived.Maps.AppendAt
import Derived.Test.YtjbmgghehdemdaaGreatDoorMT21
import Derived.Test.YtjbmgghehdemdaaGreatDoorMT7
import Derived.ProofKit
import Derived.LaidMore
import Derived.Deep.Strs
import Derived.Deep.Slices
import Derived.Deep.Cut
import Derived.Deep.CutRange
namespace Go.Proofs.YtjbmgghehdemdaaGreatDoor
set_option maxRecDepth 100000
set_option maxHeartbeats 16000000
open _root_.Go.Proofs.Tryz
open Go.RowKit
theorem Kb:(prog.info? 9).map (fun i=>(i.zero,i.size,i.bytes))=some (some (.string ⟨#[]⟩),1,16):=by kernel_rfl
theorem ip {w:World} {B:Nat} {v:Value} {ss:List ByteArray}(h:ak w B v ss):∃ a c,v=.slice a ss.length c:=by
 rcases h.form with ⟨rfl,rfl⟩|⟨g,cap,rfl,_,_⟩
 .exact⟨_,_,rfl⟩
 .exact⟨_,_,rfl⟩
def ax8 (w:World) (gs:List (List Rw)) (f:List Rw→ByteArray) (ok:List Rw→Bool) (v i:Value) (wr:World):Prop :=
 ∃ k:Nat,k≤gs.length∧i=.int .i64 (k:Int)∧ak wr w.heap.size v ((gs.take k).map f)∧(∀ (j:Nat) (g:List Rw),j<k→gs[j]? = some g→ok g=true)∧Below w.heap.size w wr
theorem Lc {gs:List (List Rw)} {k:Nat} {g:List Rw}(f:List Rw→ByteArray) (h:gs[k]? = some g):(gs.take (k+1)).map f=(gs.take k).map f++[f g]:=by
 rw[List.take_add_one,h];simp
end Go.Proofs.YtjbmgghehdemdaaGreatDoor
