/- SRec7 -/
import Derived.Test.YtjbmgghehdemdaaGreatDoorMT23
namespace Go.Proofs.YtjbmgghehdemdaaGreatDoor
set_option maxRecDepth 100000
set_option maxHeartbeats 16000000
open _root_.Go.Proofs.Tryz
open Go.RowKit
def io (s:ByteArray):Option (Dn × Nat) :=
 match bq s with
 | none=>none
 | some (o,n)=>if o.text.size≤60∧o.val.size≤60 then some (o,n) else none
theorem lr {s:ByteArray}(h:bq s=none):io s=none:=by unfold io;rw[h]
theorem Hw {s:ByteArray} {o:Dn} {n:Nat}(h:bq s=some (o,n)) (hl:¬ (o.text.size≤60∧o.val.size≤60)):io s=none:=by
 unfold io;rw[h];show (if _ then _ else _)=none
 rw[if_neg hl]
theorem Cx {s:ByteArray} {o:Dn} {n:Nat}(h:bq s=some (o,n)) (hl:o.text.size≤60∧o.val.size≤60):io s=some (o,n):=by
 unfold io;rw[h];show (if _ then _ else _)=_
 rw[if_pos hl]
theorem af4 {s:ByteArray}(h:s.size<2):bq s=none:=by
 unfold bq;by_cases h0:s.size=0
 .rw[if_pos h0]
 rw[if_neg h0];by_cases h1:hd s 0=112
 .rw[if_pos h1,if_pos (by omega)]
 rw[if_neg h1];by_cases h2:hd s 0=100
 .rw[if_pos h2,if_pos (by omega)]
 .rw[if_neg h2]
theorem wh (s:ByteArray) (a b:Nat) (h:a+b≤s.size):(s.extract a (a+b)).size=b:=by rw[ByteArray.size_extract];omega
theorem Ku {s:ByteArray}(a0:¬ s.size=0) (hq:hd s 0=112) (hh:¬ s.size<3) (hl:60<hd s 1∨60<hd s 2):io s=none:=by
 by_cases he:s.size≤3+hd s 1+hd s 2
 .exact lr (by unfold bq;rw[if_neg a0,if_pos hq,if_neg hh,if_pos he])
 by_cases a1:hd s (3+hd s 1+hd s 2)=46
 .have hR:bq s=some (⟨true,s.extract 3 (3+hd s 1),s.extract (3+hd s 1) (3+hd s 1+hd s 2)⟩,3+hd s 1+hd s 2+1):=by unfold bq;rw[if_neg a0,if_pos hq,if_neg hh,if_neg he,if_pos a1]
  refine Hw hR fun c=>?_
  have e1:=wh s 3 (hd s 1) (by omega);have e2:=wh s (3+hd s 1) (hd s 2) (by omega);have c1:(s.extract 3 (3+hd s 1)).size≤60:=c.1;have c2:(s.extract (3+hd s 1) (3+hd s 1+hd s 2)).size≤60:=c.2;omega
 .exact lr (by unfold bq;rw[if_neg a0,if_pos hq,if_neg hh,if_neg he,if_neg a1])
theorem Wl {s:ByteArray}(a1:¬ s.size=0) (hq:¬ hd s 0=112) (a0:hd s 0=100) (hh:¬ s.size<2) (hl:60<hd s 1):io s=none:=by
 by_cases he:s.size≤2+hd s 1
 .exact lr (by unfold bq;rw[if_neg a1,if_neg hq,if_pos a0,if_neg hh,if_pos he])
 by_cases a2:hd s (2+hd s 1)=46
 .have hR:bq s=some (⟨false,s.extract 2 (2+hd s 1),⟨#[]⟩⟩,2+hd s 1+1):=by unfold bq;rw[if_neg a1,if_neg hq,if_pos a0,if_neg hh,if_neg he,if_pos a2]
  refine Hw hR fun c=>?_
  have e1:=wh s 2 (hd s 1) (by omega);have c1:(s.extract 2 (2+hd s 1)).size≤60:=c.1;omega
 .exact lr (by unfold bq;rw[if_neg a1,if_neg hq,if_pos a0,if_neg hh,if_neg he,if_neg a2])
theorem ah5 (s:ByteArray) (w:World) (h0:0<s.size) (hz:s.size≤1048576) :
  Calls prog 48 #[.string s] w fun e w'=>e=.returned (af5 (io s))∧Below w.heap.size w w':=by
 have a1:Hid (∀ o:Obj,Below w.heap.size w (w.alloc o)):=fun o=>bY o
 obtain⟨d0,d1,d2,df⟩:=Yj w;have af:w.heap.size<(w.alloc (.cells #[.int .i64 0,.string ⟨#[]⟩,.string ⟨#[]⟩] 27)).heap.size:=by simp
 have a3:¬ s.size=0:=by omega
 have m1:=jc s 1;have m2:=jc s 2;by_cases h2:s.size<2
 .have hR:io s=none:=lr (af4 h2)
  have ac:(s.size:Int)<2:=by omega
  rw[hR];show Calls prog 48 #[.string s] w fun e w'=>e=.returned (.tuple #[.agg #[.int .i64 0,.string ⟨#[]⟩,.string ⟨#[]⟩],.int .i64 0])∧Below w.heap.size w w'
  clear hR;go_enter func48,ntmps48;go_wp2;refine bodyPost_ret (v:=.tuple #[.agg #[.int .i64 0,.string ⟨#[]⟩,.string ⟨#[]⟩],.int .i64 0]) ?_ rfl ⟨rfl,by repeat (first|exact a1.out _|refine Below.alloc ?_ (by simp) _|refine Below.setCell ?_ bR _|refine Below.drew ?_|refine ch ?_ _)⟩;rw[results_cell_tmp rfl];go_simp
 have ac:¬ (s.size:Int)<2:=by omega
 have x0:∀ u:World,(Instr.index 9 (.string s) (.int .i64 0)).run prog u=.ok (.int .u8 (hd s 0:Int)) u:=d5 s 0 (by omega)
 by_cases hq:hd s 0=112
 .rw[hq]at x0
  by_cases hh:s.size<3
  .have hR:io s=none:=lr (by unfold bq;rw[if_neg a3,if_pos hq,if_pos hh])
   have ab:(s.size:Int)<3:=by omega
   rw[hR];show Calls prog 48 #[.string s] w fun e w'=>e=.returned (.tuple #[.agg #[.int .i64 0,.string ⟨#[]⟩,.string ⟨#[]⟩],.int .i64 0])∧Below w.heap.size w w'
   clear hR;go_enter func48,ntmps48;go_wp2;refine bodyPost_ret (v:=.tuple #[.agg #[.int .i64 0,.string ⟨#[]⟩,.string ⟨#[]⟩],.int .i64 0]) ?_ rfl ⟨rfl,by repeat (first|exact a1.out _|refine Below.alloc ?_ (by simp) _|refine Below.setCell ?_ bR _|refine Below.drew ?_|refine ch ?_ _)⟩;rw[results_cell_tmp rfl];go_simp
  have ab:¬ (s.size:Int)<3:=by omega
  have x1:∀ u:World,(Instr.index 9 (.string s) (.int .i64 1)).run prog u=.ok (.int .u8 (hd s 1:Int)) u:=d5 s 1 (by omega)
  have x2:∀ u:World,(Instr.index 9 (.string s) (.int .i64 2)).run prog u=.ok (.int .u8 (hd s 2:Int)) u:=d5 s 2 (by omega)
  have u1:IntKind.i64.wrap (hd s 1:Int)=(hd s 1:Int):=by rw[IntKind.wrap_i64];omega
  have u2:IntKind.i64.wrap (hd s 2:Int)=(hd s 2:Int):=by rw[IntKind.wrap_i64];omega
  by_cases ha:60<hd s 1
  .have hR:io s=none:=Ku a3 hq hh (.inl ha)
   rw[hR];show Calls prog 48 #[.string s] w fun e w'=>e=.returned (.tuple #[.agg #[.int .i64 0,.string ⟨#[]⟩,.string ⟨#[]⟩],.int .i64 0])∧Below w.heap.size w w'
   clear hR;generalize hd s 1=a at *;generalize hd s 2=b at *;have a4:(60:Int)<(a:Int):=by omega
   go_enter func48,ntmps48;go_wp2;refine bodyPost_ret (v:=.tuple #[.agg #[.int .i64 0,.string ⟨#[]⟩,.string ⟨#[]⟩],.int .i64 0]) ?_ rfl ⟨rfl,by repeat (first|exact a1.out _|refine Below.alloc ?_ (by simp) _|refine Below.setCell ?_ bR _|refine Below.drew ?_|refine ch ?_ _)⟩;rw[results_cell_tmp rfl];go_simp
  by_cases hb:60<hd s 2
  .have hR:io s=none:=Ku a3 hq hh (.inr hb)
   rw[hR];show Calls prog 48 #[.string s] w fun e w'=>e=.returned (.tuple #[.agg #[.int .i64 0,.string ⟨#[]⟩,.string ⟨#[]⟩],.int .i64 0])∧Below w.heap.size w w'
   clear hR;generalize hd s 1=a at *;generalize hd s 2=b at *;have a4:¬ (60:Int)<(a:Int):=by omega
   have a8:(60:Int)<(b:Int):=by omega
   go_enter func48,ntmps48;go_wp2;refine bodyPost_ret (v:=.tuple #[.agg #[.int .i64 0,.string ⟨#[]⟩,.string ⟨#[]⟩],.int .i64 0]) ?_ rfl ⟨rfl,by repeat (first|exact a1.out _|refine Below.alloc ?_ (by simp) _|refine Below.setCell ?_ bR _|refine Below.drew ?_|refine ch ?_ _)⟩;rw[results_cell_tmp rfl];go_simp
  by_cases he:s.size≤3+hd s 1+hd s 2
  .have hR:io s=none:=lr (by unfold bq;rw[if_neg a3,if_pos hq,if_neg hh,if_pos he])
   rw[hR];show Calls prog 48 #[.string s] w fun e w'=>e=.returned (.tuple #[.agg #[.int .i64 0,.string ⟨#[]⟩,.string ⟨#[]⟩],.int .i64 0])∧Below w.heap.size w w'
   clear hR;generalize hd s 1=a at *;generalize hd s 2=b at *;have a4:¬ (60:Int)<(a:Int):=by omega
   have a8:¬ (60:Int)<(b:Int):=by omega
   have a6:(s.size:Int)<3+(a:Int)+(b:Int)+1:=by omega
   go_enter func48,ntmps48;go_wp2;refine bodyPost_ret (v:=.tuple #[.agg #[.int .i64 0,.string ⟨#[]⟩,.string ⟨#[]⟩],.int .i64 0]) ?_ rfl ⟨rfl,by repeat (first|exact a1.out _|refine Below.alloc ?_ (by simp) _|refine Below.setCell ?_ bR _|refine Below.drew ?_|refine ch ?_ _)⟩;rw[results_cell_tmp rfl];go_simp
  have xE:∀ u:World,(Instr.index 9 (.string s) (.int .i64 ((3+hd s 1+hd s 2:Nat):Int))).run prog u=.ok (.int .u8 (hd s (3+hd s 1+hd s 2):Int)) u:=d5 s _ (by omega)
  by_cases a0:hd s (3+hd s 1+hd s 2)=46
  .have hR:io s=some (⟨true,s.extract 3 (3+hd s 1),s.extract (3+hd s 1) (3+hd s 1+hd s 2)⟩,3+hd s 1+hd s 2+1):=Cx (by unfold bq;rw[if_neg a3,if_pos hq,if_neg hh,if_neg he,if_pos a0]) ⟨by have:=wh s 3 (hd s 1) (by omega);show (s.extract 3 (3+hd s 1)).size≤60;omega,by have:=wh s (3+hd s 1) (hd s 2) (by omega);show (s.extract (3+hd s 1) (3+hd s 1+hd s 2)).size≤60;omega⟩
   rw[hR];show Calls prog 48 #[.string s] w fun e w'=>e=.returned (.tuple #[.agg #[.int .i64 1,.string (s.extract 3 (3+hd s 1)),.string (s.extract (3+hd s 1) (3+hd s 1+hd s 2))],.int .i64 ((3+hd s 1+hd s 2+1:Nat):Int)])∧Below w.heap.size w w'
   rw[a0]at xE;clear hR a0;generalize hd s 1=a at *;generalize hd s 2=b at *;have a4:¬ (60:Int)<(a:Int):=by omega
   have a8:¬ (60:Int)<(b:Int):=by omega
   have a6:¬ (s.size:Int)<3+(a:Int)+(b:Int)+1:=by omega
   have a2:((3+a+b:Nat):Int)=3+(a:Int)+(b:Int):=by omega
   have a7:((3+a+b+1:Nat):Int)=3+(a:Int)+(b:Int)+1:=by omega
   rw[a2]at xE;rw[a7];clear a2 a7;have ad:∀ u:World,(Instr.slice 9 (.string s) (some (.int .i64 3)) (some (.int .i64 (3+(a:Int)))) none).run prog u=.ok (.string (s.extract 3 (3+a))) u:=fun u=>m5 s _ _ _ _ (by omega) (by omega) (by omega) (by omega) u
   have ae:∀ u:World,(Instr.slice 9 (.string s) (some (.int .i64 (3+(a:Int)))) (some (.int .i64 (3+(a:Int)+(b:Int)))) none).run prog u=.ok (.string (s.extract (3+a) (3+a+b))) u:=fun u=>m5 s _ _ _ _ (by omega) (by omega) (by omega) (by omega) u
   generalize s.extract 3 (3+a)=e1 at *;generalize s.extract (3+a) (3+a+b)=e2 at *;go_enter func48,ntmps48;go_wp2;refine bodyPost_ret (v:=.tuple #[.agg #[.int .i64 1,.string e1,.string e2],.int .i64 (3+(a:Int)+(b:Int)+1)]) ?_ rfl ⟨rfl,by repeat (first|exact a1.out _|refine Below.alloc ?_ (by simp) _|refine Below.setCell ?_ bR _|refine Below.drew ?_|refine ch ?_ _)⟩;rw[results_cell_tmp rfl];go_simp
  .have hR:io s=none:=lr (by unfold bq;rw[if_neg a3,if_pos hq,if_neg hh,if_neg he,if_neg a0])
   rw[hR];show Calls prog 48 #[.string s] w fun e w'=>e=.returned (.tuple #[.agg #[.int .i64 0,.string ⟨#[]⟩,.string ⟨#[]⟩],.int .i64 0])∧Below w.heap.size w w'
   clear hR;generalize hd s (3+hd s 1+hd s 2)=c at *;generalize hd s 1=a at *;generalize hd s 2=b at *;have a4:¬ (60:Int)<(a:Int):=by omega
   have a8:¬ (60:Int)<(b:Int):=by omega
   have a6:¬ (s.size:Int)<3+(a:Int)+(b:Int)+1:=by omega
   have a2:((3+a+b:Nat):Int)=3+(a:Int)+(b:Int):=by omega
   rw[a2]at xE;have a9:¬ (c:Int)=46:=by omega
   have aa:((c:Int) != 46)=true:=by simp;omega
   clear a2 a0;go_enter func48,ntmps48;go_wp2;refine bodyPost_ret (v:=.tuple #[.agg #[.int .i64 0,.string ⟨#[]⟩,.string ⟨#[]⟩],.int .i64 0]) ?_ rfl ⟨rfl,by repeat (first|exact a1.out _|refine Below.alloc ?_ (by simp) _|refine Below.setCell ?_ bR _|refine Below.drew ?_|refine ch ?_ _)⟩;rw[results_cell_tmp rfl];go_simp
 .by_cases a5:hd s 0=100
  .rw[a5]at x0
   have hh:¬ s.size<2:=by omega
   have x1:∀ u:World,(Instr.index 9 (.string s) (.int .i64 1)).run prog u=.ok (.int .u8 (hd s 1:Int)) u:=d5 s 1 (by omega)
   have u1:IntKind.i64.wrap (hd s 1:Int)=(hd s 1:Int):=by rw[IntKind.wrap_i64];omega
   by_cases ha:60<hd s 1
   .have hR:io s=none:=Wl a3 hq a5 hh ha
    rw[hR];show Calls prog 48 #[.string s] w fun e w'=>e=.returned (.tuple #[.agg #[.int .i64 0,.string ⟨#[]⟩,.string ⟨#[]⟩],.int .i64 0])∧Below w.heap.size w w'
    clear hR;generalize hd s 1=a at *;have a4:(60:Int)<(a:Int):=by omega
    go_enter func48,ntmps48;go_wp2;refine bodyPost_ret (v:=.tuple #[.agg #[.int .i64 0,.string ⟨#[]⟩,.string ⟨#[]⟩],.int .i64 0]) ?_ rfl ⟨rfl,by repeat (first|exact a1.out _|refine Below.alloc ?_ (by simp) _|refine Below.setCell ?_ bR _|refine Below.drew ?_|refine ch ?_ _)⟩;rw[results_cell_tmp rfl];go_simp
   by_cases he:s.size≤2+hd s 1
   .have hR:io s=none:=lr (by unfold bq;rw[if_neg a3,if_neg hq,if_pos a5,if_neg hh,if_pos he])
    rw[hR];show Calls prog 48 #[.string s] w fun e w'=>e=.returned (.tuple #[.agg #[.int .i64 0,.string ⟨#[]⟩,.string ⟨#[]⟩],.int .i64 0])∧Below w.heap.size w w'
    clear hR;generalize hd s 1=a at *;have a4:¬ (60:Int)<(a:Int):=by omega
    have a6:(s.size:Int)<2+(a:Int)+1:=by omega
    go_enter func48,ntmps48;go_wp2;refine bodyPost_ret (v:=.tuple #[.agg #[.int .i64 0,.string ⟨#[]⟩,.string ⟨#[]⟩],.int .i64 0]) ?_ rfl ⟨rfl,by repeat (first|exact a1.out _|refine Below.alloc ?_ (by simp) _|refine Below.setCell ?_ bR _|refine Below.drew ?_|refine ch ?_ _)⟩;rw[results_cell_tmp rfl];go_simp
   have xE:∀ u:World,(Instr.index 9 (.string s) (.int .i64 ((2+hd s 1:Nat):Int))).run prog u=.ok (.int .u8 (hd s (2+hd s 1):Int)) u:=d5 s _ (by omega)
   by_cases a0:hd s (2+hd s 1)=46
   .have hR:io s=some (⟨false,s.extract 2 (2+hd s 1),⟨#[]⟩⟩,2+hd s 1+1):=Cx (by unfold bq;rw[if_neg a3,if_neg hq,if_pos a5,if_neg hh,if_neg he,if_pos a0]) ⟨by have:=wh s 2 (hd s 1) (by omega);show (s.extract 2 (2+hd s 1)).size≤60;omega,by show 0≤60;omega⟩
    rw[hR];show Calls prog 48 #[.string s] w fun e w'=>e=.returned (.tuple #[.agg #[.int .i64 2,.string (s.extract 2 (2+hd s 1)),.string ⟨#[]⟩],.int .i64 ((2+hd s 1+1:Nat):Int)])∧Below w.heap.size w w'
    rw[a0]at xE;clear hR a0;generalize hd s 1=a at *;have a4:¬ (60:Int)<(a:Int):=by omega
    have a6:¬ (s.size:Int)<2+(a:Int)+1:=by omega
    have a2:((2+a:Nat):Int)=2+(a:Int):=by omega
    have a7:((2+a+1:Nat):Int)=2+(a:Int)+1:=by omega
    rw[a2]at xE;rw[a7];clear a2 a7;have ad:∀ u:World,(Instr.slice 9 (.string s) (some (.int .i64 2)) (some (.int .i64 (2+(a:Int)))) none).run prog u=.ok (.string (s.extract 2 (2+a))) u:=fun u=>m5 s _ _ _ _ (by omega) (by omega) (by omega) (by omega) u
    have ae:∀ u:World,(Instr.slice 9 (.string s) (some (.int .i64 (2+(a:Int)))) (some (.int .i64 (2+(a:Int)))) none).run prog u=.ok (.string ⟨#[]⟩) u:=fun u=>by rw[m5 s _ _ (2+a) (2+a) (by omega) (by omega) (by omega) (by omega) u,St]
    generalize s.extract 2 (2+a)=e1 at *;go_enter func48,ntmps48;go_wp2;refine bodyPost_ret (v:=.tuple #[.agg #[.int .i64 2,.string e1,.string ⟨#[]⟩],.int .i64 (2+(a:Int)+1)]) ?_ rfl ⟨rfl,by repeat (first|exact a1.out _|refine Below.alloc ?_ (by simp) _|refine Below.setCell ?_ bR _|refine Below.drew ?_|refine ch ?_ _)⟩;rw[results_cell_tmp rfl];go_simp
   .have hR:io s=none:=lr (by unfold bq;rw[if_neg a3,if_neg hq,if_pos a5,if_neg hh,if_neg he,if_neg a0])
    rw[hR];show Calls prog 48 #[.string s] w fun e w'=>e=.returned (.tuple #[.agg #[.int .i64 0,.string ⟨#[]⟩,.string ⟨#[]⟩],.int .i64 0])∧Below w.heap.size w w'
    clear hR;generalize hd s (2+hd s 1)=c at *;generalize hd s 1=a at *;have a4:¬ (60:Int)<(a:Int):=by omega
    have a6:¬ (s.size:Int)<2+(a:Int)+1:=by omega
    have a2:((2+a:Nat):Int)=2+(a:Int):=by omega
    rw[a2]at xE;have a9:¬ (c:Int)=46:=by omega
    have aa:((c:Int) != 46)=true:=by simp;omega
    clear a2 a0;go_enter func48,ntmps48;go_wp2;refine bodyPost_ret (v:=.tuple #[.agg #[.int .i64 0,.string ⟨#[]⟩,.string ⟨#[]⟩],.int .i64 0]) ?_ rfl ⟨rfl,by repeat (first|exact a1.out _|refine Below.alloc ?_ (by simp) _|refine Below.setCell ?_ bR _|refine Below.drew ?_|refine ch ?_ _)⟩;rw[results_cell_tmp rfl];go_simp
  .have hR:io s=none:=lr (by unfold bq;rw[if_neg a3,if_neg hq,if_neg a5])
   have n1:¬ (hd s 0:Int)=112:=by omega
   have n2:¬ (hd s 0:Int)=100:=by omega
   have n3:((hd s 0:Int) != 112)=true:=by simp;omega
   have n4:((hd s 0:Int) != 100)=true:=by simp;omega
   rw[hR];show Calls prog 48 #[.string s] w fun e w'=>e=.returned (.tuple #[.agg #[.int .i64 0,.string ⟨#[]⟩,.string ⟨#[]⟩],.int .i64 0])∧Below w.heap.size w w'
   clear hR;go_enter func48,ntmps48;go_wp2;refine bodyPost_ret (v:=.tuple #[.agg #[.int .i64 0,.string ⟨#[]⟩,.string ⟨#[]⟩],.int .i64 0]) ?_ rfl ⟨rfl,by repeat (first|exact a1.out _|refine Below.alloc ?_ (by simp) _|refine Below.setCell ?_ bR _|refine Below.drew ?_|refine ch ?_ _)⟩;rw[results_cell_tmp rfl];go_simp
def ks:Nat→ByteArray→Nat
 | 0,_=>0
 | f+1,s=>match bq s with
  | none=>0
  | some (_,n)=>n+ks f (s.extract n s.size)
def jm (s:ByteArray):Nat:=ks s.size s
theorem Oo {s:ByteArray}(h:s.size=0):bq s=none:=by unfold bq;rw[if_pos h]
theorem Fe:∀ (f g:Nat) (s:ByteArray),s.size≤f→s.size≤g→ks f s=ks g s
 | 0,0,_,_,_=>rfl
 | 0,g+1,s,h1,_=>by rw[ks,ks,Oo (by omega)]
 | f+1,0,s,_,h2=>by rw[ks,ks,Oo (by omega)]
 | f+1,g+1,s,h1,h2=>by
  rw[ks,ks]
  cases hr:bq s with
  | none=>rfl
  | some p =>
   obtain⟨o,n⟩:=p;have hb:=wm hr;have hz:=li s n;show n+ks f (s.extract n s.size)=n+ks g (s.extract n s.size)
   rw[Fe f g (s.extract n s.size) (by omega) (by omega)]
theorem Xo {s:ByteArray}(h:bq s=none):jm s=0:=by
 unfold jm
 cases s.size with
 | zero=>rfl
 | succ m=>rw[ks,h]
theorem Xn {s:ByteArray} {o:Dn} {n:Nat}(h:bq s=some (o,n)):jm s=n+jm (s.extract n s.size):=by
 have hb:=wm h;have hz:=li s n;unfold jm;obtain⟨m,hm⟩:∃ m,s.size=m+1:=⟨s.size-1,by omega⟩
 rw[show ks s.size s=ks (m+1) s by rw[hm],ks,h];show n+ks m (s.extract n s.size)=_
 rw[Fe m _ (s.extract n s.size) (by omega) bR]
theorem Kv (s:ByteArray) (a n:Nat):(s.extract a s.size).extract n (s.extract a s.size).size=s.extract (a+n) s.size:=by
 rw[li];apply ByteArray.ext
 apply Array.toList_inj.1
 have e:=fun (t:ByteArray) (i j:Nat)=>xg t i j
 rw[e,e,e,List.drop_take,List.drop_drop,List.take_take];congr 1
 omega
def at2 (w:World) (ty:TypeId) (pv:Value):Prop:=w.cell? ⟨0,0,none⟩=some (.iface ty pv)
def ay7 (w:World) (s:ByteArray) (v i:Value) (wr:World):Prop :=
 ∃ (k:Nat) (os:List Dn),k≤s.size∧i=.int .i64 (k:Int)∧Dos wr w.heap.size v os∧os.length≤k∧jd s=(jd (s.extract k s.size)).map (os++·)∧jm s=k+jm (s.extract k s.size)∧Below w.heap.size w wr
theorem ao1 {s:ByteArray} {k n:Nat} {o:Dn} {os:List Dn}(hr:bq (s.extract k s.size)=some (o,n)) (h1:jd s=(jd (s.extract k s.size)).map (os++·)) (h2:jm s=k+jm (s.extract k s.size)) :
  jd s=(jd (s.extract (k+n) s.size)).map ((os++[o])++·)∧jm s=k+n+jm (s.extract (k+n) s.size):=by
 rw[Cm hr,Kv]at h1;rw[Xn hr,Kv]at h2;refine⟨?_,by omega⟩;rw[h1]
 cases jd (s.extract (k+n) s.size) <;> simp
theorem Rn (s:ByteArray) (w:World) (hz:s.size≤1048576){ty:TypeId} {pv:Value}(hg:at2 w ty pv) :
  Calls prog 46 #[.string s] w fun e w' =>
   (s.size≤6000∧∃ (os:List Dn) (v:Value),jd s=some os∧e=.returned (.tuple #[v,.nilIface])∧Dos w' w.heap.size v os∧os.length≤6000∧Below w.heap.size w w') ∨
   (s.size≤6000∧jd s=none∧e=.returned (.tuple #[.slice none 0 0,.iface 98 (.agg #[.int .i64 (jm s:Int)])])∧Below w.heap.size w w') ∨
   (¬ s.size≤6000∧e=.returned (.tuple #[.slice none 0 0,.iface ty pv])∧Below w.heap.size w w'):=by
 by_cases h6:s.size≤6000
 .have ai:¬ (6000:Int)<(s.size:Int):=by omega
  obtain⟨i0,hi,am,an,ao⟩:=info_parts an4;have HR:Hid (∀ (k:Nat) (u:World),k<s.size→Calls prog 97 #[.string (s.extract k s.size)] u fun e w'=>e=.returned (af5 (bq (s.extract k s.size)))∧Below u.heap.size u w'):=fun k u hk=>ap7 _ u (by rw[li];omega) (by rw[li];omega)
  have a8:s.extract 0 s.size=s:=by simp
  clear hg;go_enter func46,ntmps46;go_wp2_with fail;go_loopw [4,5] (fun v i wr=>ay7 w s v i wr) (fun _ i _=>s.size-(intOf i).toNat)
  case atStart=>exact⟨0,[],Nat.zero_le _,rfl,World.ownsRow_nil _ _ _ _,bR,by rw[a8];simp,by rw[a8];omega,bX⟩
  case round =>
   clear a8;obtain⟨k,os,hk,rfl,hD,av,hL,hW,hb⟩:=hrel;have HD:Hid (Dos wr w.heap.size u4 os):=hD;have HL:Hid (jd s=(jd (s.extract k s.size)).map (os++·)):=hL;have HW:Hid (jm s=k+jm (s.extract k s.size)):=hW;have HB:Hid (Below w.heap.size w wr):=hb;clear hD hL hW hb;by_cases ak:k<s.size
   .have aq:(k:Int)<(s.size:Int):=by omega
    have RC:=HR.out k wr ak;have sl:∀ u:World,(Instr.slice 9 (.string s) (some (.int .i64 (k:Int))) none none).run prog u=.ok (.string (s.extract k s.size)) u:=fun u=>by
     rw[run_slice_string_l (ht:=underlying9) (h0:=by omega) (h1:=by omega),Int.toNat_natCast]
    cases hrn:bq (s.extract k s.size) with
    | none =>
     rw[hrn]at RC;have a2:jd s=none:=by rw[HL.out,Ki (by rw[li];omega) hrn];rfl
     have ac:jm s=k:=by rw[HW.out,Xo hrn];omega
     have a5:Hid (jd s=none):=a2;have ah:Hid (jm s=k):=ac;have a1:Calls prog 97 #[.string (s.extract k s.size)] wr fun e w'=>e=.returned (.tuple #[.agg #[.int .i64 0,.string ⟨#[]⟩,.string ⟨#[]⟩],.int .i64 0])∧Below wr.heap.size wr w':=RC
     clear RC a2 ac hrn HL HW HD;generalize s.extract k s.size=rs at *;go_wp2_with fail;refine a1.mono ?_;rintro e w2 ⟨rfl,b2⟩;have ad:Hid (∀ o,Below w.heap.size w (w2.alloc o)):=fun o=>(HB.out.trans (b2.mono HB.out.size)).alloc (HB.out.trans (b2.mono HB.out.size)).size o
     clear a1 b2 HB;go_wp2;go_ret2;exact .inr (.inl ⟨h6,a5.out,by (rw[ah.out];try rfl),ad.out _⟩)
    | some p =>
     obtain⟨o,n⟩:=p;rw[hrn]at RC;have aj:=wm hrn;rw[li]at aj;have ar:¬ (n:Int)=0:=by omega
     have au:((n:Int) == 0)=false:=by simp;omega
     have a7:=ao1 hrn HL.out HW.out;obtain⟨q,hq⟩:∃ q,q=k+n:=⟨_,rfl⟩
     rw[<- hq]at a7;have aa:Hid (jd s=(jd (s.extract q s.size)).map ((os++[o])++·)∧jm s=q+jm (s.extract q s.size)):=a7;have ax:IntKind.i64.wrap ((k:Int)+(n:Int))=(q:Int):=by rw[IntKind.wrap_i64];omega
     have a1:Calls prog 97 #[.string (s.extract k s.size)] wr fun e w'=>e=.returned (.tuple #[.agg #[.int .i64 (kn7 o),.string o.text,.string o.val],.int .i64 (n:Int)])∧Below wr.heap.size wr w':=RC
     clear RC hrn HL HW a7;generalize s.extract k s.size=rs at *;generalize hkn7:kn7 o=kd at *;go_wp2_with fail;refine a1.mono ?_;rintro e w2 ⟨rfl,b2⟩;have b3:Below w2.heap.size w2 (w2.alloc (.cells #[.int .i64 kd,.string o.text,.string o.val] 27)):=bY _;have b4:=b3.alloc b3.size (.cells #[.int .i64 kd,.string o.text,.string o.val] 27);have a3:=((HD.out.below b2).below b4);have a9:Hid (Dos ((w2.alloc (.cells #[.int .i64 kd,.string o.text,.string o.val] 27)).alloc (.cells #[.int .i64 kd,.string o.text,.string o.val] 27)) w.heap.size u4 os):=a3;have a6:Below w.heap.size w ((w2.alloc (.cells #[.int .i64 kd,.string o.text,.string o.val] 27)).alloc (.cells #[.int .i64 kd,.string o.text,.string o.val] 27)):=(HB.out.trans (b2.mono HB.out.size)).trans (b4.mono (HB.out.trans (b2.mono HB.out.size)).size)
     have a4:Hid (Below w.heap.size w ((w2.alloc (.cells #[.int .i64 kd,.string o.text,.string o.val] 27)).alloc (.cells #[.int .i64 kd,.string o.text,.string o.val] 27))):=a6;have aw:=a6.size;have al:(w2.alloc (.cells #[.int .i64 kd,.string o.text,.string o.val] 27)).heap.size=w2.heap.size+1:=by simp
     unfold Dos at a3;clear a1 b2 b3 b4 HB HD a6;go_wp2_with (at_builtin;refine wpList_append_own _ rfl _ _ 94 rfl w.heap.size 27 i0 (.agg #[.int .i64 0,.string ⟨#[]⟩,.string ⟨#[]⟩]) 3 40 underlying94 hi am an ao rfl (by decide) _ _ _ rfl a3 ⟨_,0,none⟩ 1 1 [.int .i64 kd,.string o.text,.string o.val] rfl rfl (C6 _ _ _ _ _ _ al.symm) (fun x hx=>by simp at hx;rcases hx with rfl|rfl|rfl <;> rfl) (by unfold maxLen;omega) (by omega) (by omega) ?_;intro v5 w5 a0 ab _)
     have af:Hid (Dos w5 w.heap.size v5 (os++[o])):=am3 (by unfold dnC;rw[hkn7];exact a0);have ae:Hid (Below w.heap.size w w5):=Below.grown a4.out ab a4.out.size (fun j hj=>(World.ownsRow.lt a9.out j hj).1);clear a0 ab a9 a4 a3;go_wp2;exact⟨⟨q,os++[o],by omega,by (first|rfl|go_num),af.out,by simp;omega,aa.out.1,aa.out.2,ae.out⟩,by simp[intOf];omega⟩
   .obtain rfl:k=s.size:=by omega
    have a2:jd s=some os:=by rw[HL.out,O0 (by rw[li];omega)];simp
    have a5:Hid (jd s=some os):=a2;clear a2 HL HW HR;go_wp2;go_ret2;exact .inl ⟨h6,os,_,a5.out,rfl,HD.out,by omega,HB.out⟩
 .have ai:(6000:Int)<(s.size:Int):=by omega
  have ap:=ag hg;unfold at2 at hg;go_enter func46,ntmps46;go_wp2;go_quiet (fail)
  go_wp2;go_ret2;exact .inr (.inr ⟨h6,rfl,ch bX _⟩)
end Go.Proofs.YtjbmgghehdemdaaGreatDoor
