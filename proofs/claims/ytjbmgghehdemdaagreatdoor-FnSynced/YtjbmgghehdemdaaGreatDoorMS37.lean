/- IGd7 -/
import Derived.Test.YtjbmgghehdemdaaGreatDoorMS33
namespace Go.Proofs.YtjbmgghehdemdaaGreatDoor
set_option maxRecDepth 100000
set_option maxHeartbeats 16000000
open _root_.Go.Proofs.Tryz
open Go.RowKit
theorem ax1:(⟨#[]⟩:ByteArray).toList=[]:=by rw[ByteArray.toList_eq]
theorem Wr (w:World) (k:Int) (x v:ByteArray) :
  Calls prog 73 #[.agg #[.int .i64 k,.string x,.string v]] w fun e w'=>e=.returned (.bool (er k x v))/\Below w.heap.size w w':=by
 have d:Hid (∀ o,Below w.heap.size w (w.alloc o)):=fun o=>bY o
 have p:=ax1;by_cases i:1<=k/\k<=4
 .obtain rfl|rfl|rfl|rfl:k=1\/k=2\/k=3\/k=4:=by omega
  .have b:Hid (er 1 x v=true):=by show _=_;unfold er;simp
   rw[b.out];go_enter func73,ntmps73;go_wp2;go_ret;exact⟨rfl,d.out _⟩
  .by_cases a:v.size=0
   .obtain rfl:=wd a
    have b:Hid (er 2 x ⟨#[]⟩=true):=by show _=_;unfold er;simp[a]
    rw[b.out];clear a;go_enter func73,ntmps73;go_wp2;go_ret;exact⟨rfl,d.out _⟩
   .have b:Hid (er 2 x v=false):=by show _=_;unfold er;simp[a]
    rw[b.out];obtain⟨f,g,h⟩:=ny a;clear a;go_enter func73,ntmps73;go_wp2;go_ret;exact⟨by first|rfl|(rw[<- f];rfl)|(rw[<- g];rfl),d.out _⟩
  .by_cases c:x.size=0
   .obtain rfl:=wd c
    by_cases a:v.size=0
    .obtain rfl:=wd a
     have b:Hid (er 3 ⟨#[]⟩ ⟨#[]⟩=true):=by show _=_;unfold er;simp[a]
     rw[b.out];clear a c;go_enter func73,ntmps73;go_wp2;go_ret;exact⟨rfl,d.out _⟩
    .have b:Hid (er 3 ⟨#[]⟩ v=false):=by show _=_;unfold er;simp[a]
     rw[b.out];obtain⟨f,g,h⟩:=ny a;clear a c;go_enter func73,ntmps73;go_wp2;go_ret;exact⟨by first|rfl|(rw[<- f];rfl)|(rw[<- g];rfl),d.out _⟩
   .have b:Hid (er 3 x v=false):=by show _=_;unfold er;simp[c]
    rw[b.out];obtain⟨f,g,h⟩:=ny c;clear c;go_enter func73,ntmps73;go_wp2;go_ret;exact⟨by first|rfl|(rw[<- f];rfl)|(rw[<- g];rfl),d.out _⟩
  .by_cases c:x.size=0
   .obtain rfl:=wd c
    by_cases a:v.size=0
    .obtain rfl:=wd a
     have b:Hid (er 4 ⟨#[]⟩ ⟨#[]⟩=true):=by show _=_;unfold er;simp[a]
     rw[b.out];clear a c;go_enter func73,ntmps73;go_wp2;go_ret;exact⟨rfl,d.out _⟩
    .have b:Hid (er 4 ⟨#[]⟩ v=false):=by show _=_;unfold er;simp[a]
     rw[b.out];obtain⟨f,g,h⟩:=ny a;clear a c;go_enter func73,ntmps73;go_wp2;go_ret;exact⟨by first|rfl|(rw[<- f];rfl)|(rw[<- g];rfl),d.out _⟩
   .have b:Hid (er 4 x v=false):=by show _=_;unfold er;simp[c]
    rw[b.out];obtain⟨f,g,h⟩:=ny c;clear c;go_enter func73,ntmps73;go_wp2;go_ret;exact⟨by first|rfl|(rw[<- f];rfl)|(rw[<- g];rfl),d.out _⟩
 .have b:Hid (er k x v=false):=by show _=_;unfold er;simp;omega
  rw[b.out];have j:(k == 1)=false:=by simp;omega
  have l:(k == 2)=false:=by simp;omega
  have m:(k == 3)=false:=by simp;omega
  have n:(k == 4)=false:=by simp;omega
  clear i;go_enter func73,ntmps73;go_wp2;go_ret;exact⟨rfl,d.out _⟩
end Go.Proofs.YtjbmgghehdemdaaGreatDoor
