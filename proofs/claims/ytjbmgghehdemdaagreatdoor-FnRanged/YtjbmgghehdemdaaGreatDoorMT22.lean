/- ITRow6 -/
import Derived.Test.YtjbmgghehdemdaaGreatDoorMT20
import Derived.Test.YtjbmgghehdemdaaGreatDoorMT7
import Derived.Test.YtjbmgghehdemdaaGreatDoorMT19
import Derived.Test.YtjbmgghehdemdaaGreatDoorMT21
import Derived.Deep.Cut
import Derived.Deep.CutRange
namespace Go.Proofs.YtjbmgghehdemdaaGreatDoor
set_option maxRecDepth 100000
set_option maxHeartbeats 16000000
open _root_.Go.Proofs.Tryz
open Go.RowKit
theorem ow {w:World} {b n:Nat} {t:ByteArray}(hb:PgR w b t) (hn:n≤t.size) :
  Calls prog 172 #[.pointer (some ⟨b,0,none⟩),.int .i64 (n:Int)] w fun e w'=>e=.returned (.string (t.extract 0 n))∧PgR w' b (t.extract n t.size)∧w.grownBy w' (some b) :=
 (aq8 hb hn).mono fun e w' ⟨h1,h2⟩=>⟨h1,by rw[h2];exact hb.set _,by rw[h2];exact au w b 0 _⟩
theorem PgR.alloc {w:World} {b:Nat} {t:ByteArray}(h:PgR w b t) (o:Obj):PgR (w.alloc o) b t:=h.below (bY _)
theorem PgR.drew {w:World} {b:Nat} {t:ByteArray}(h:PgR w b t):PgR w.drew b t:=h
theorem se {w w':World} {b:Nat} {o:Obj}(h:(w.alloc o).grownBy w' (some b)) (_hb:b<w.heap.size):w.grownBy w' (some b) :=
 (World.grownBy_alloc w o (some b)).trans h
theorem An {w w':World} {r:Option Nat}(h:w.drew.grownBy w' r):w.grownBy w' r:=⟨h.os,h.tape,h.output,h.size,h.block⟩
def un (w:World) (b:Nat):Prop:=w.heap[b]? = some (.cells #[.string ⟨#[]⟩,.string ⟨#[]⟩,.string ⟨#[]⟩] 37)
theorem un.lt {w:World} {b:Nat}(h:un w b):b<w.heap.size:=(Array.getElem?_eq_some_iff.1 h).1
theorem un.frozen {w:World} {b:Nat}(h:un w b) (j:Nat):w.frozen? ⟨b,j,none⟩=false:=by unfold un at h;simp[World.frozen?,h]
theorem Fd (u:World) (b k:Nat) (x0 x1 x2:Value) (h:b≠k):(((u.setCell ⟨b,0,none⟩ x0).setCell ⟨b,1,none⟩ x1).setCell ⟨b,2,none⟩ x2).heap[k]? = u.heap[k]?:=by
 simp[World.setCell,Array.getElem?_modify,h]
theorem Va {w u:World} {b c:Nat} {x0 x1 x2:Value}(h:w.grownBy u (some b)) (hc:w.heap.size≤c):w.grownBy (((u.setCell ⟨c,0,none⟩ x0).setCell ⟨c,1,none⟩ x1).setCell ⟨c,2,none⟩ x2) (some b) :=
 ⟨h.os,h.tape,h.output,by simpa using h.size,fun k hk hne=>(Fd u c k x0 x1 x2 (by omega)).trans (h.block k hk hne)⟩
theorem Y0 {w1 w2 w3 w4:World} {b c:Nat}(hb:b<c) (h:un w1 c) (g2:w1.drew.grownBy w2 (some b)) (g3:w2.grownBy w3 (some b)) (g4:w3.grownBy w4 (some b)):un w4 c:=by
 have hn:some c≠some b:=fun e=>by cases e;omega
 have h2:un w2 c:=(g2.block c h.lt hn).trans h;have h3:un w3 c:=(g3.block c h2.lt hn).trans h2;exact (g4.block c h3.lt hn).trans h3
theorem oi {t:ByteArray}(h4:4≤t.size) (i:Nat) (hi:i<4) (u:World):(Instr.index 9 (.string (t.extract 0 4)) (.int .i64 (i:Int))).run prog u=.ok (.int .u8 (hd t i:Int)) u:=by
 have h:=d5 (t.extract 0 4) i (by rw[fh t h4];omega) u;rw[zl t h4 (by omega),Nat.zero_add]at h;exact h
theorem Xi {w:World} {b:Nat} {t p:ByteArray}(hb:PgR w b t) (a6:o6 p t=true) (_hp:p.size≤1048576) (aj:t.size≤1048576) :
  Calls prog 173 #[.pointer (some ⟨b,0,none⟩),.string p] w fun e w'=>e=.returned (rwV (ld p t))∧PgR w' b (kp t)∧w.grownBy w' (some b):=by
 obtain⟨h4,hn,h5⟩:=td a6;have aa:=hb.lt;have T0:Calls prog 172 #[.pointer (some ⟨b,0,none⟩),.int .i64 4] _ _:=ow (n:=4) (hb.alloc (.cells #[.string ⟨#[]⟩,.string ⟨#[]⟩,.string ⟨#[]⟩] 37)) h4;have x0:∀ u:World,(Instr.index 9 (.string (t.extract 0 4)) (.int .i64 0)).run prog u=.ok (.int .u8 (hd t 0:Int)) u:=oi h4 0 (by omega)
 have x1:∀ u:World,(Instr.index 9 (.string (t.extract 0 4)) (.int .i64 1)).run prog u=.ok (.int .u8 (hd t 1:Int)) u:=oi h4 1 (by omega)
 have x2:∀ u:World,(Instr.index 9 (.string (t.extract 0 4)) (.int .i64 2)).run prog u=.ok (.int .u8 (hd t 2:Int)) u:=oi h4 2 (by omega)
 have x3:∀ u:World,(Instr.index 9 (.string (t.extract 0 4)) (.int .i64 3)).run prog u=.ok (.int .u8 (hd t 3:Int)) u:=oi h4 3 (by omega)
 have l0:=jc t 0;have l1:=jc t 1;have l2:=jc t 2;have l3:=jc t 3;obtain⟨ac,ad⟩:=a27 a6;have s1:=Nu (t:=t);have s2:=Nw (t:=t) (by omega);have s3:=Ny (t:=t) (by omega);have TA:=fun (u:World) (h:PgR u b (lf1 t))=>ow (n:=hd t 1) h (by omega)
 have TB:=fun (u:World) (h:PgR u b (lf2 t))=>ow (n:=hd t 2) h (by omega)
 have TC:=fun (u:World) (h:PgR u b (lf3 t))=>ow (n:=hd t 3) h (by omega)
 rw[<- ad]at TC;rw[ac];rw[show (lf1 t).extract (hd t 1) (lf1 t).size=lf2 t from rfl]at TA;rw[show (lf2 t).extract (hd t 2) (lf2 t).size=lf3 t from rfl]at TB;rw[show t.extract 4 t.size=lf1 t from rfl]at T0;have q1:((lf1 t).extract 0 (hd t 1)).size=hd t 1:=fh _ (by omega);have q0:(p.extract 0 (hd t 0)).size=hd t 0:=fh _ hn;have ai:(hd t 0:Int)≤(p.size:Int):=by omega
 unfold rwV;simp only;clear a6 ac ad s1 s2 s3;generalize (lf1 t).extract 0 (hd t 1)=kx at *;generalize (lf2 t).extract 0 (hd t 2)=tx at *;generalize (lf3 t).extract 0 (hd t 3)=vx at *;generalize hd t 0=n0 at *;generalize hd t 1=k1 at *;generalize hd t 2=k2 at *;generalize hd t 3=k3 at *;generalize lf1 t=t1 at *;generalize lf2 t=t2 at *;generalize lf3 t=t3 at *;generalize t.extract 0 4=hx at *;generalize kp t=tz at *;go_enter func173,ntmps173;go_wp2_with fail;refine T0.mono ?_;rintro e w1 ⟨rfl,P1,g1⟩;have a9:Hid (Calls _ _ _ _ _):=TA _ P1.drew;have ae:Hid _:=TB;have af:Hid _:=TC;have a8:Hid (World.grownBy _ _ _):=g1;have ab:un w1 w.heap.size:=(g1.block w.heap.size (by simp) (fun e=>by cases e;omega)).trans (heap_alloc_new w _);have a7:Hid (un w1 w.heap.size):=ab;clear T0 TA hb P1 TB TC ab g1;go_wp2_with fail;have ah:¬ 9223372036854775807<n0+k1:=by omega
 have v1:IntKind.i64.wrap (k1:Int)=(k1:Int):=by rw[IntKind.wrap_i64];omega
 have v2:IntKind.i64.wrap (k2:Int)=(k2:Int):=by rw[IntKind.wrap_i64];omega
 have v3:IntKind.i64.wrap (k3:Int)=(k3:Int):=by rw[IntKind.wrap_i64];omega
 have ag:some w.heap.size≠some b:=fun e=>by cases e;omega
 clear ag;go_region_law (first
  | (go_simp;go_at_call 172;refine a9.out.mono ?_;clear a9;rintro e w2 ⟨rfl,P2,g2⟩;have a1:Hid (Calls _ _ _ _ _):=ae.out _ P2;have a3:Hid (PgR w2 b t2∧w1.drew.grownBy w2 (some b)):=⟨P2,g2⟩;clear P2 g2)
  | (go_simp;go_at_call 172;refine a1.out.mono ?_;clear a1;rintro e w3 ⟨rfl,P3,g3⟩;have a2:Hid (Calls _ _ _ _ _):=af.out _ P3;have a4:Hid (PgR w3 b t3∧w2.grownBy w3 (some b)):=⟨P3,g3⟩;clear P3 g3)
  | (go_simp;go_at_call 172;refine a2.out.mono ?_;clear a2;rintro e w4 ⟨rfl,P4,g4⟩;have a5:Hid (PgR w4 b tz∧w3.grownBy w4 (some b)):=⟨P4,g4⟩;have a0:un w4 w.heap.size:=Y0 aa a7.out a3.out.2 a4.out.2 g4;have z0:=cell_of_row _ _ 0 _ _ _ a0;have z1:=cell_of_row _ _ 1 _ _ _ a0;have z2:=cell_of_row _ _ 2 _ _ _ a0;have fz:∀ j,w4.frozen? ⟨w.heap.size,j,none⟩=false:=a0.frozen;have lz:=a0.lt;clear a0 P4 g4))
 all_goals
  have GG:Hid (w.grownBy w4 (some b)):=(((se a8.out aa).trans (An a3.out.2)).trans a4.out.2).trans a5.out.2;have PZ:Hid (∀ x0 x1 x2,PgR (((w4.setCell ⟨w.heap.size,0,none⟩ x0).setCell ⟨w.heap.size,1,none⟩ x1).setCell ⟨w.heap.size,2,none⟩ x2) b tz):=fun x0 x1 x2=>(Fd w4 w.heap.size b x0 x1 x2 (by omega)).trans a5.out.1
  have GZ:Hid (∀ x0 x1 x2,w.grownBy (((w4.setCell ⟨w.heap.size,0,none⟩ x0).setCell ⟨w.heap.size,1,none⟩ x1).setCell ⟨w.heap.size,2,none⟩ x2) (some b)):=fun x0 x1 x2=>Va GG.out bR
  clear a8 a3 a4 a5 a7 GG;go_wp2;refine bodyPost_ret (v:=.agg #[.string (p.extract 0 n0++kx),.string tx,.string vx]) ?_ rfl ⟨rfl,PZ.out _ _ _,GZ.out _ _ _⟩;rw[av rfl];go_simp
def f7 (w:World) (ty:TypeId) (pv:Value):Prop:=w.cell? ⟨6,0,none⟩=some (.iface ty pv)
theorem f7.lt {w:World} {ty:TypeId} {pv:Value}(h:f7 w ty pv):6<w.heap.size:=ag h
theorem f7.grown {w w':World} {b:Nat} {ty:TypeId} {pv:Value}(h:f7 w ty pv) (hg:w.grownBy w' (some b)) (hb:6<b):f7 w' ty pv :=
 (World.cell?_of_block (a:=⟨6,0,none⟩) (hg.block _ h.lt (fun e=>by have h2:6=b:=Option.some.inj e;omega))).trans h
theorem f7.alloc {w:World} {ty:TypeId} {pv:Value}(h:f7 w ty pv) (o:Obj):f7 (w.alloc o) ty pv :=
 (World.cell?_of_block (a:=⟨6,0,none⟩) (Below.heap_alloc w o _ h.lt)).trans h
theorem f7.drew {w:World} {ty:TypeId} {pv:Value}(h:f7 w ty pv):f7 w.drew ty pv:=h
theorem Pm {w:World} {b n:Nat} {t:ByteArray} {ty:TypeId} {pv:Value}(hg:f7 w ty pv) (hb:PgR w b t) (hn:t.size<n) :
  Calls prog 172 #[.pointer (some ⟨b,0,none⟩),.int .i64 (n:Int)] w fun e w'=>e=.panicked [{ v:=.iface ty pv,recovered:=false }]∧w.grownBy w' (some b) :=
 (aq7 hg hb hn).mono fun e w' ⟨h1,h2⟩=>⟨h1,by rw[h2];exact World.grownBy.refl _ _⟩
theorem Xh {w:World} {b:Nat} {t p:ByteArray} {ty:TypeId} {pv:Value}(hg:f7 w ty pv) (a0:6<b) (hb:PgR w b t) (a1:o6 p t=false) (_hp:p.size≤1048576) (aa:t.size≤1048576) :
  Calls prog 173 #[.pointer (some ⟨b,0,none⟩),.string p] w fun e w'=>e=.panicked [{ v:=.iface ty pv,recovered:=false }]∧w.grownBy w' (some b):=by
 have a4:=hb.lt;by_cases h4:4≤t.size
 .have T0:Calls prog 172 #[.pointer (some ⟨b,0,none⟩),.int .i64 4] _ _:=ow (n:=4) (hb.alloc (.cells #[.string ⟨#[]⟩,.string ⟨#[]⟩,.string ⟨#[]⟩] 37)) h4
  have G0:=hg.alloc (.cells #[.string ⟨#[]⟩,.string ⟨#[]⟩,.string ⟨#[]⟩] 37);have x0:∀ u:World,(Instr.index 9 (.string (t.extract 0 4)) (.int .i64 0)).run prog u=.ok (.int .u8 (hd t 0:Int)) u:=oi h4 0 (by omega)
  have x1:∀ u:World,(Instr.index 9 (.string (t.extract 0 4)) (.int .i64 1)).run prog u=.ok (.int .u8 (hd t 1:Int)) u:=oi h4 1 (by omega)
  have x2:∀ u:World,(Instr.index 9 (.string (t.extract 0 4)) (.int .i64 2)).run prog u=.ok (.int .u8 (hd t 2:Int)) u:=oi h4 2 (by omega)
  have x3:∀ u:World,(Instr.index 9 (.string (t.extract 0 4)) (.int .i64 3)).run prog u=.ok (.int .u8 (hd t 3:Int)) u:=oi h4 3 (by omega)
  have l0:=jc t 0;have l1:=jc t 1;have l2:=jc t 2;have l3:=jc t 3;rw[show t.extract 4 t.size=lf1 t from rfl]at T0;by_cases hn:hd t 0≤p.size
  .have s1:=Nu (t:=t)
   have a9:(hd t 0:Int)≤(p.size:Int):=by omega
   have q0:(p.extract 0 (hd t 0)).size=hd t 0:=fh _ hn;have NO:=fun (u:World) (tt:ByteArray) (m:Nat) (hG:f7 u ty pv) (h:PgR u b tt) (hm:tt.size<m)=>Pm (n:=m) hG h hm
   by_cases hA:4+hd t 1≤t.size
   .have s2:=Nw (t:=t) hA
    have TA:=fun (u:World) (h:PgR u b (lf1 t))=>ow (n:=hd t 1) h (by omega)
    rw[show (lf1 t).extract (hd t 1) (lf1 t).size=lf2 t from rfl]at TA;have q1:((lf1 t).extract 0 (hd t 1)).size=hd t 1:=fh _ (by omega);by_cases hB:4+hd t 1+hd t 2≤t.size
    .have s3:=Ny (t:=t) hB
     have hC:¬ 4+hd t 1+hd t 2+hd t 3≤t.size:=fun h=>by
      unfold o6 at a1;rw[decide_eq_true h4,decide_eq_true hn,decide_eq_true h]at a1
      cases a1
     have TB:=fun (u:World) (h:PgR u b (lf2 t))=>ow (n:=hd t 2) h (by omega)
     rw[show (lf2 t).extract (hd t 2) (lf2 t).size=lf3 t from rfl]at TB;have TN:=fun (u:World) (hG:f7 u ty pv) (h:PgR u b (lf3 t))=>NO u (lf3 t) (hd t 3) hG h (by omega)
     generalize (lf1 t).extract 0 (hd t 1)=kx at *;generalize (lf2 t).extract 0 (hd t 2)=tx at *;generalize hd t 0=n0 at *;generalize hd t 1=k1 at *;generalize hd t 2=k2 at *;generalize hd t 3=k3 at *;generalize lf1 t=t1 at *;generalize lf2 t=t2 at *;generalize lf3 t=t3 at *;generalize t.extract 0 4=hx at *;go_enter func173,ntmps173;go_wp2_with fail;refine T0.mono ?_;rintro e w1 ⟨rfl,P1,g1⟩;have a6:Hid (Calls _ _ _ _ _):=TA _ P1.drew;have a5:Hid (f7 w1 ty pv):=G0.grown g1 a0;have a2:Hid (World.grownBy _ _ _):=se g1 a4;have a3:Hid _:=TN;have a7:Hid _:=TB;clear T0 TN NO TA hb P1 g1 a1 TB;go_wp2_with fail;have v1:IntKind.i64.wrap (k1:Int)=(k1:Int):=by rw[IntKind.wrap_i64];omega
     have v2:IntKind.i64.wrap (k2:Int)=(k2:Int):=by rw[IntKind.wrap_i64];omega
     have v3:IntKind.i64.wrap (k3:Int)=(k3:Int):=by rw[IntKind.wrap_i64];omega
     have a8:¬ 9223372036854775807<n0+k1:=by omega
     refine wp_region_any (by kernel_rfl) ?_;refine wpAny_take (i:=0) (v:=.string p) rfl (by kernel_rfl) (by kernel_rfl) (by kernel_rfl) (fun _ _ _ h=>h) (Or.inl ⟨by rfl,fun u=>(by go_simp)⟩) ?_;refine wpAny_take (i:=1) (v:=.int .i64 (n0:Int)) rfl (by kernel_rfl) (by kernel_rfl) (by kernel_rfl) (fun _ _ _ h=>h) (Or.inl ⟨by rfl,fun u=>(by go_simp)⟩) ?_;refine wpAny_take (i:=2) (v:=.string (p.extract 0 n0)) rfl (by kernel_rfl) (by kernel_rfl) (by kernel_rfl) (fun _ _ _ h=>h) (Or.inl ⟨by rfl,fun u=>(by go_simp)⟩) ?_;refine wpAny_take (i:=3) (v:=.pointer (some ⟨b,0,none⟩)) rfl (by kernel_rfl) (by kernel_rfl) (by kernel_rfl) (fun _ _ _ h=>h) (Or.inl ⟨by rfl,fun u=>(by go_simp)⟩) ?_;refine wpAny_take (i:=4) (v:=.string hx) rfl (by kernel_rfl) (by kernel_rfl) (by kernel_rfl) (fun _ _ _ h=>h) (Or.inl ⟨by rfl,fun u=>(by go_simp)⟩) ?_
     refine wpAny_take (i:=5) (v:=.int .u8 (k1:Int)) rfl (by kernel_rfl) (by kernel_rfl) (by kernel_rfl) (fun _ _ _ h=>h) (Or.inl ⟨by rfl,fun u=>(by go_simp)⟩) ?_;refine wpAny_take (i:=6) (v:=.int .i64 (k1:Int)) rfl (by kernel_rfl) (by kernel_rfl) (by kernel_rfl) (fun _ _ _ h=>h) (Or.inl ⟨by rfl,fun u=>(by go_simp)⟩) ?_;refine wpAny_take (i:=9) (v:=.pointer (some ⟨b,0,none⟩)) rfl (by kernel_rfl) (by kernel_rfl) (by kernel_rfl) (fun _ _ _ h=>h) (Or.inl ⟨by rfl,fun u=>(by go_simp)⟩) ?_;refine wpAny_take (i:=10) (v:=.string hx) rfl (by kernel_rfl) (by kernel_rfl) (by kernel_rfl) (fun _ _ _ h=>h) (Or.inl ⟨by rfl,fun u=>(by go_simp)⟩) ?_;refine wpAny_take (i:=11) (v:=.int .u8 (k2:Int)) rfl (by kernel_rfl) (by kernel_rfl) (by kernel_rfl) (fun _ _ _ h=>h) (Or.inl ⟨by rfl,fun u=>(by go_simp)⟩) ?_
     refine wpAny_take (i:=12) (v:=.int .i64 (k2:Int)) rfl (by kernel_rfl) (by kernel_rfl) (by kernel_rfl) (fun _ _ _ h=>h) (Or.inl ⟨by rfl,fun u=>(by go_simp)⟩) ?_;refine wpAny_take (i:=14) (v:=.pointer (some ⟨b,0,none⟩)) rfl (by kernel_rfl) (by kernel_rfl) (by kernel_rfl) (fun _ _ _ h=>h) (Or.inl ⟨by rfl,fun u=>(by go_simp)⟩) ?_;refine wpAny_take (i:=15) (v:=.string hx) rfl (by kernel_rfl) (by kernel_rfl) (by kernel_rfl) (fun _ _ _ h=>h) (Or.inl ⟨by rfl,fun u=>(by go_simp)⟩) ?_;refine wpAny_take (i:=16) (v:=.int .u8 (k3:Int)) rfl (by kernel_rfl) (by kernel_rfl) (by kernel_rfl) (fun _ _ _ h=>h) (Or.inl ⟨by rfl,fun u=>(by go_simp)⟩) ?_;refine wpAny_take (i:=17) (v:=.int .i64 (k3:Int)) rfl (by kernel_rfl) (by kernel_rfl) (by kernel_rfl) (fun _ _ _ h=>h) (Or.inl ⟨by rfl,fun u=>(by go_simp)⟩) ?_;refine wpAny_ready (rs:=[7]) (by kernel_rfl) (by simp) ?_
     refine AllReady.cons rfl (fun K hK=>?_) AllReady.nil;go_simp;go_at_call 172
     refine a6.out.mono ?_;rintro e w2 ⟨rfl,P2,g2⟩;refine hK _ _ ?_;clear hK;refine wpAny_take (i:=8) (v:=.string (p.extract 0 n0++kx)) rfl (by kernel_rfl) (by kernel_rfl) (by kernel_rfl) (fun _ _ _ h=>h) (Or.inl ⟨by rfl,fun u=>(by go_simp)⟩) ?_;refine wpAny_ready (rs:=[13]) (by kernel_rfl) (by simp) ?_;refine AllReady.cons rfl (fun K hK=>?_) AllReady.nil;go_simp;go_at_call 172
     refine (a7.out _ P2).mono ?_;rintro e w3 ⟨rfl,P3,g3⟩;refine hK _ _ ?_;clear hK;refine wpAny_ready (rs:=[18]) (by kernel_rfl) (by simp) ?_;refine AllReady.cons rfl (fun K hK=>?_) AllReady.nil;go_simp;go_at_call 172
     refine (a3.out _ (((a5.out.drew).grown g2 a0).grown g3 a0) P3).mono ?_;rintro e w4 ⟨rfl,g4⟩;exact⟨rfl,rfl,((a2.out.trans (An g2)).trans g3).trans g4⟩
    .have TN:=fun (u:World) (hG:f7 u ty pv) (h:PgR u b (lf2 t))=>NO u (lf2 t) (hd t 2) hG h (by omega)
     generalize (lf1 t).extract 0 (hd t 1)=kx at *;generalize hd t 0=n0 at *;generalize hd t 1=k1 at *;generalize hd t 2=k2 at *;generalize hd t 3=k3 at *;generalize lf1 t=t1 at *;generalize lf2 t=t2 at *;generalize t.extract 0 4=hx at *;go_enter func173,ntmps173;go_wp2_with fail;refine T0.mono ?_;rintro e w1 ⟨rfl,P1,g1⟩;have a6:Hid (Calls _ _ _ _ _):=TA _ P1.drew;have a5:Hid (f7 w1 ty pv):=G0.grown g1 a0;have a2:Hid (World.grownBy _ _ _):=se g1 a4;have a3:Hid _:=TN;clear T0 TN NO TA hb P1 g1 a1;go_wp2_with fail;have v1:IntKind.i64.wrap (k1:Int)=(k1:Int):=by rw[IntKind.wrap_i64];omega
     have v2:IntKind.i64.wrap (k2:Int)=(k2:Int):=by rw[IntKind.wrap_i64];omega
     have v3:IntKind.i64.wrap (k3:Int)=(k3:Int):=by rw[IntKind.wrap_i64];omega
     have a8:¬ 9223372036854775807<n0+k1:=by omega
     refine wp_region_any (by kernel_rfl) ?_;refine wpAny_take (i:=0) (v:=.string p) rfl (by kernel_rfl) (by kernel_rfl) (by kernel_rfl) (fun _ _ _ h=>h) (Or.inl ⟨by rfl,fun u=>(by go_simp)⟩) ?_;refine wpAny_take (i:=1) (v:=.int .i64 (n0:Int)) rfl (by kernel_rfl) (by kernel_rfl) (by kernel_rfl) (fun _ _ _ h=>h) (Or.inl ⟨by rfl,fun u=>(by go_simp)⟩) ?_;refine wpAny_take (i:=2) (v:=.string (p.extract 0 n0)) rfl (by kernel_rfl) (by kernel_rfl) (by kernel_rfl) (fun _ _ _ h=>h) (Or.inl ⟨by rfl,fun u=>(by go_simp)⟩) ?_;refine wpAny_take (i:=3) (v:=.pointer (some ⟨b,0,none⟩)) rfl (by kernel_rfl) (by kernel_rfl) (by kernel_rfl) (fun _ _ _ h=>h) (Or.inl ⟨by rfl,fun u=>(by go_simp)⟩) ?_;refine wpAny_take (i:=4) (v:=.string hx) rfl (by kernel_rfl) (by kernel_rfl) (by kernel_rfl) (fun _ _ _ h=>h) (Or.inl ⟨by rfl,fun u=>(by go_simp)⟩) ?_
     refine wpAny_take (i:=5) (v:=.int .u8 (k1:Int)) rfl (by kernel_rfl) (by kernel_rfl) (by kernel_rfl) (fun _ _ _ h=>h) (Or.inl ⟨by rfl,fun u=>(by go_simp)⟩) ?_;refine wpAny_take (i:=6) (v:=.int .i64 (k1:Int)) rfl (by kernel_rfl) (by kernel_rfl) (by kernel_rfl) (fun _ _ _ h=>h) (Or.inl ⟨by rfl,fun u=>(by go_simp)⟩) ?_;refine wpAny_take (i:=9) (v:=.pointer (some ⟨b,0,none⟩)) rfl (by kernel_rfl) (by kernel_rfl) (by kernel_rfl) (fun _ _ _ h=>h) (Or.inl ⟨by rfl,fun u=>(by go_simp)⟩) ?_;refine wpAny_take (i:=10) (v:=.string hx) rfl (by kernel_rfl) (by kernel_rfl) (by kernel_rfl) (fun _ _ _ h=>h) (Or.inl ⟨by rfl,fun u=>(by go_simp)⟩) ?_;refine wpAny_take (i:=11) (v:=.int .u8 (k2:Int)) rfl (by kernel_rfl) (by kernel_rfl) (by kernel_rfl) (fun _ _ _ h=>h) (Or.inl ⟨by rfl,fun u=>(by go_simp)⟩) ?_
     refine wpAny_take (i:=12) (v:=.int .i64 (k2:Int)) rfl (by kernel_rfl) (by kernel_rfl) (by kernel_rfl) (fun _ _ _ h=>h) (Or.inl ⟨by rfl,fun u=>(by go_simp)⟩) ?_;refine wpAny_take (i:=14) (v:=.pointer (some ⟨b,0,none⟩)) rfl (by kernel_rfl) (by kernel_rfl) (by kernel_rfl) (fun _ _ _ h=>h) (Or.inl ⟨by rfl,fun u=>(by go_simp)⟩) ?_;refine wpAny_take (i:=15) (v:=.string hx) rfl (by kernel_rfl) (by kernel_rfl) (by kernel_rfl) (fun _ _ _ h=>h) (Or.inl ⟨by rfl,fun u=>(by go_simp)⟩) ?_;refine wpAny_take (i:=16) (v:=.int .u8 (k3:Int)) rfl (by kernel_rfl) (by kernel_rfl) (by kernel_rfl) (fun _ _ _ h=>h) (Or.inl ⟨by rfl,fun u=>(by go_simp)⟩) ?_;refine wpAny_take (i:=17) (v:=.int .i64 (k3:Int)) rfl (by kernel_rfl) (by kernel_rfl) (by kernel_rfl) (fun _ _ _ h=>h) (Or.inl ⟨by rfl,fun u=>(by go_simp)⟩) ?_;refine wpAny_ready (rs:=[7]) (by kernel_rfl) (by simp) ?_
     refine AllReady.cons rfl (fun K hK=>?_) AllReady.nil;go_simp;go_at_call 172
     refine a6.out.mono ?_;rintro e w2 ⟨rfl,P2,g2⟩;refine hK _ _ ?_;clear hK;refine wpAny_take (i:=8) (v:=.string (p.extract 0 n0++kx)) rfl (by kernel_rfl) (by kernel_rfl) (by kernel_rfl) (fun _ _ _ h=>h) (Or.inl ⟨by rfl,fun u=>(by go_simp)⟩) ?_;refine wpAny_ready (rs:=[13]) (by kernel_rfl) (by simp) ?_;refine AllReady.cons rfl (fun K hK=>?_) AllReady.nil;go_simp;go_at_call 172
     refine (a3.out _ ((a5.out.drew).grown g2 a0) P2).mono ?_;rintro e w3 ⟨rfl,g3⟩;exact⟨rfl,rfl,(a2.out.trans (An g2)).trans g3⟩
   .have TN:=fun (u:World) (hG:f7 u ty pv) (h:PgR u b (lf1 t))=>NO u (lf1 t) (hd t 1) hG h (by omega)
    generalize hd t 0=n0 at *;generalize hd t 1=k1 at *;generalize hd t 2=k2 at *;generalize hd t 3=k3 at *;generalize lf1 t=t1 at *;generalize t.extract 0 4=hx at *;go_enter func173,ntmps173;go_wp2_with fail;refine T0.mono ?_;rintro e w1 ⟨rfl,P1,g1⟩;have a3:Hid (Calls _ _ _ _ _):=TN _ (G0.grown g1 a0).drew P1.drew;have a2:Hid (World.grownBy _ _ _):=se g1 a4;clear T0 TN NO hb P1 g1 a1;go_wp2_with fail;have v1:IntKind.i64.wrap (k1:Int)=(k1:Int):=by rw[IntKind.wrap_i64];omega
    have v2:IntKind.i64.wrap (k2:Int)=(k2:Int):=by rw[IntKind.wrap_i64];omega
    have v3:IntKind.i64.wrap (k3:Int)=(k3:Int):=by rw[IntKind.wrap_i64];omega
    refine wp_region_any (by kernel_rfl) ?_;refine wpAny_take (i:=0) (v:=.string p) rfl (by kernel_rfl) (by kernel_rfl) (by kernel_rfl) (fun _ _ _ h=>h) (Or.inl ⟨by rfl,fun u=>(by go_simp)⟩) ?_;refine wpAny_take (i:=1) (v:=.int .i64 (n0:Int)) rfl (by kernel_rfl) (by kernel_rfl) (by kernel_rfl) (fun _ _ _ h=>h) (Or.inl ⟨by rfl,fun u=>(by go_simp)⟩) ?_;refine wpAny_take (i:=2) (v:=.string (p.extract 0 n0)) rfl (by kernel_rfl) (by kernel_rfl) (by kernel_rfl) (fun _ _ _ h=>h) (Or.inl ⟨by rfl,fun u=>(by go_simp)⟩) ?_;refine wpAny_take (i:=3) (v:=.pointer (some ⟨b,0,none⟩)) rfl (by kernel_rfl) (by kernel_rfl) (by kernel_rfl) (fun _ _ _ h=>h) (Or.inl ⟨by rfl,fun u=>(by go_simp)⟩) ?_;refine wpAny_take (i:=4) (v:=.string hx) rfl (by kernel_rfl) (by kernel_rfl) (by kernel_rfl) (fun _ _ _ h=>h) (Or.inl ⟨by rfl,fun u=>(by go_simp)⟩) ?_
    refine wpAny_take (i:=5) (v:=.int .u8 (k1:Int)) rfl (by kernel_rfl) (by kernel_rfl) (by kernel_rfl) (fun _ _ _ h=>h) (Or.inl ⟨by rfl,fun u=>(by go_simp)⟩) ?_;refine wpAny_take (i:=6) (v:=.int .i64 (k1:Int)) rfl (by kernel_rfl) (by kernel_rfl) (by kernel_rfl) (fun _ _ _ h=>h) (Or.inl ⟨by rfl,fun u=>(by go_simp)⟩) ?_;refine wpAny_take (i:=9) (v:=.pointer (some ⟨b,0,none⟩)) rfl (by kernel_rfl) (by kernel_rfl) (by kernel_rfl) (fun _ _ _ h=>h) (Or.inl ⟨by rfl,fun u=>(by go_simp)⟩) ?_;refine wpAny_take (i:=10) (v:=.string hx) rfl (by kernel_rfl) (by kernel_rfl) (by kernel_rfl) (fun _ _ _ h=>h) (Or.inl ⟨by rfl,fun u=>(by go_simp)⟩) ?_;refine wpAny_take (i:=11) (v:=.int .u8 (k2:Int)) rfl (by kernel_rfl) (by kernel_rfl) (by kernel_rfl) (fun _ _ _ h=>h) (Or.inl ⟨by rfl,fun u=>(by go_simp)⟩) ?_
    refine wpAny_take (i:=12) (v:=.int .i64 (k2:Int)) rfl (by kernel_rfl) (by kernel_rfl) (by kernel_rfl) (fun _ _ _ h=>h) (Or.inl ⟨by rfl,fun u=>(by go_simp)⟩) ?_;refine wpAny_take (i:=14) (v:=.pointer (some ⟨b,0,none⟩)) rfl (by kernel_rfl) (by kernel_rfl) (by kernel_rfl) (fun _ _ _ h=>h) (Or.inl ⟨by rfl,fun u=>(by go_simp)⟩) ?_;refine wpAny_take (i:=15) (v:=.string hx) rfl (by kernel_rfl) (by kernel_rfl) (by kernel_rfl) (fun _ _ _ h=>h) (Or.inl ⟨by rfl,fun u=>(by go_simp)⟩) ?_;refine wpAny_take (i:=16) (v:=.int .u8 (k3:Int)) rfl (by kernel_rfl) (by kernel_rfl) (by kernel_rfl) (fun _ _ _ h=>h) (Or.inl ⟨by rfl,fun u=>(by go_simp)⟩) ?_;refine wpAny_take (i:=17) (v:=.int .i64 (k3:Int)) rfl (by kernel_rfl) (by kernel_rfl) (by kernel_rfl) (fun _ _ _ h=>h) (Or.inl ⟨by rfl,fun u=>(by go_simp)⟩) ?_;refine wpAny_ready (rs:=[7]) (by kernel_rfl) (by simp) ?_
    refine AllReady.cons rfl (fun K hK=>?_) AllReady.nil;go_simp;go_at_call 172
    refine a3.out.mono ?_;rintro e w2 ⟨rfl,g2⟩;exact⟨rfl,rfl,a2.out.trans (An g2)⟩
  .have a9:¬ (hd t 0:Int)≤(p.size:Int):=by omega
   generalize hd t 0=n0 at *;clear x1 x2 x3 a1;go_enter func173,ntmps173;go_wp2_with fail;refine T0.mono ?_;rintro e w1 ⟨rfl,P1,g1⟩;have c1:w1.cell? ⟨6,0,none⟩=some (.iface ty pv):=G0.grown g1 a0;have HG:Hid (w.grownBy w1 (some b)):=se g1 a4;clear T0 P1 g1;go_wp2;exact⟨rfl,rfl,HG.out⟩
 .have T0:Calls prog 172 #[.pointer (some ⟨b,0,none⟩),.int .i64 4] _ _:=Pm (n:=4) (hg.alloc (.cells #[.string ⟨#[]⟩,.string ⟨#[]⟩,.string ⟨#[]⟩] 37)) (hb.alloc (.cells #[.string ⟨#[]⟩,.string ⟨#[]⟩,.string ⟨#[]⟩] 37)) (by omega)
  go_enter func173,ntmps173;go_wp2_with fail;refine T0.mono ?_;rintro e w1 ⟨rfl,g1⟩;exact⟨rfl,rfl,se g1 a4⟩
def as3 (W:World) (l:List Rw) (v3 v4 i:Value) (wr:World):Prop :=
 ∃ k:Nat,k≤l.length∧i=.int .i64 k∧By6 wr W.heap.size v3 ([80,71,(l.length:Int)]++eh ⟨#[]⟩ (l.take k))∧v4=.string (ie ⟨#[]⟩ (l.take k))∧Below W.heap.size W wr
def b25 (W:World) (v3:Value) (bs:List Int) (x:Rw) (bx:Nat) (a:ByteArray) (i:Value) (wr:World):Prop :=
 ∃ n:Nat,i=.int .i64 n∧n≤a.size∧n≤x.key.size∧n+shL (a.data.toList.drop n) (x.key.data.toList.drop n)=shB a x.key∧By6 wr W.heap.size v3 bs∧di wr bx x∧Below W.heap.size W wr
theorem nr {w:World}(n:Nat):Below w.heap.size w (w.drewN n):=⟨rfl,rfl,rfl,bR,fun _ _=>rfl⟩
theorem ap9 (p:ByteArray) (x:Rw):je p x=[(shB p x.key:Int),(x.key.size:Int)-(shB p x.key:Int),(x.text.size:Int),(x.val.size:Int)]++bI (x.key.extract (shB p x.key) x.key.size)++bI x.text++bI x.val:=rfl
theorem rq {w:World} {a:Option Addr} {l:List Rw} {cap:Nat}(hS:dd w a l) (hB:RwB l) :
  Calls prog 81 #[.slice a l.length cap] w fun e w'=>e=.returned (.string (byT (et l)))∧Below w.heap.size w w':=by
 have hl:=hB.1;have HB:Hid (RwB l):=hB;clear hB;obtain⟨i0,hi0,aa,a7,a9⟩:=info_parts Fv;have N0:=ao8 w w.heap.size rfl [80,71,(l.length:Int)] (by simp);have ak:Hid (By6 _ _ _ _):=N0;clear N0;go_enter func81,ntmps81;go_wp2;go_loopw [3,4,14] (fun v3 v4 i wr=>as3 w l v3 v4 i wr) (fun _ _ i _=>l.length-(intOf i).toNat)
 case atStart=>exact⟨0,Nat.zero_le _,rfl,ak.out,rfl,bY _⟩
 case round =>
  clear ak;obtain⟨k,hk,rfl,hY,rfl,hb⟩:=hrel;by_cases an:k<l.length
  .obtain⟨x,hx⟩:∃ x,l[k]? = some x:=⟨_,List.getElem?_eq_getElem an⟩
   have aC:=hS.below hb bR;rcases aC with rfl|⟨b,o,rfl,hE⟩
   .simp at hx
   obtain⟨a0,a1,a2⟩:=hE k x hx;have aD:=ag a0;have aO:(k:Int)<(l.length:Int):=by omega
   have aL:=HB.out.at hx;have aU:=uu HB.out k;have aG:=zi HB.out k;have HR:Hid _:=Bc ⟨#[]⟩ hx;have HK:Hid _:=Av ⟨#[]⟩ hx;have aT:([80,71,(l.length:Int)]++eh ⟨#[]⟩ (l.take k)).length≤196098:=by rw[List.length_append];simp;omega
   have ai:Hid (Below w.heap.size w (wr.alloc (.cells #[.string x.key,.string x.text,.string x.val] 37))):=hb.alloc hb.size _;have al:Hid (By6 (wr.alloc (.cells #[.string x.key,.string x.text,.string x.val] 37)) w.heap.size _ _):=hY.below (bY _);have ac:Hid (di _ _ _):=ky wr x;have aA:Hid ([80,71,(l.length:Int)]++eh ⟨#[]⟩ (l.take (k+1))=([80,71,(l.length:Int)]++eh ⟨#[]⟩ (l.take k))++je (ie ⟨#[]⟩ (l.take k)) x):=by show _=_;rw[HR.out,List.append_assoc]
   have aM:=hb.size;generalize ie ⟨#[]⟩ (l.take k)=pk at *;generalize [80,71,(l.length:Int)]++eh ⟨#[]⟩ (l.take k)=bs at *;obtain⟨y0,y1,y2⟩:=aL;obtain⟨bx,ab⟩:∃ bx,Hid (bx=wr.heap.size):=⟨_,rfl⟩
   clear hE hx hS hb hY HR aG;go_wp2_with fail;rw[<- ab.out]at ac;rw[<- ab.out];go_loopw [7] (fun i wr2=>b25 w u3 bs x bx pk i wr2) (fun i _=>pk.size-(intOf i).toNat)
   case atStart=>exact⟨0,rfl,Nat.zero_le _,Nat.zero_le _,by simp[shB],al.out,ac.out,ai.out⟩
   case round =>
    clear al ac ai ab a0 a1 a2 aD aM;obtain⟨n,rfl,aS,aF,hR,hY,hX,hb⟩:=hrel;obtain⟨q0,q1,q2⟩:=hX.cells;have a3:=hX.lt;have HY:Hid (By6 _ _ _ _):=hY;have HX:Hid (di _ _ _):=hX;have a4:Hid (Below w.heap.size w wr):=hb;have a6:Hid _:=hR;clear hY hX hR hb;by_cases a8:n<pk.size∧n<x.key.size∧bAt pk n=bAt x.key n
    .obtain⟨c1,c2,hq⟩:=a8
     have d1:(n:Int)<(pk.size:Int):=by omega
     have d2:(n:Int)<(x.key.size:Int):=by omega
     have x1:=d5 pk n c1;have x2:=d5 x.key n c2;have HN:Hid (n+1+shL (pk.data.toList.drop (n+1)) (x.key.data.toList.drop (n+1))=shB pk x.key):=by
      show _=_
      rw[<- a6.out,oc c1,oc c2,shL,if_pos hq];omega
     rw[hq]at x1;clear a6 hq;go_wp2;go_quiet (fail)
     go_wp2;exact⟨⟨n+1,by go_num,c1,c2,HN.out,HY.out.below (nr _),HX.out.below (nr _),a4.out.trans ((nr _).mono a4.out.size)⟩,by simp[intOf];omega⟩
    .have au:shB pk x.key=n:=by
      have h:=a6.out;by_cases c1:n<pk.size
      .by_cases c2:n<x.key.size
       .rw[oc c1,oc c2,shL,if_neg (fun hq=>a8 ⟨c1,c2,hq⟩)]at h
        omega
       .rw[P6 _ _ (yb c2)]at h;omega
      .rw[P0 _ _ (yb c1)]at h;omega
     have h3:¬ n<pk.size∨(n<pk.size∧¬ n<x.key.size)∨(n<pk.size∧n<x.key.size∧((bAt pk n).toNat:Int)≠((bAt x.key n).toNat:Int)):=by
      by_cases c1:n<pk.size
      .by_cases c2:n<x.key.size
       .exact .inr (.inr ⟨c1,c2,fun h=>a8 ⟨c1,c2,UInt8.toNat_inj.1 (by omega)⟩⟩)
       .exact .inr (.inl ⟨c1,c2⟩)
      .exact .inl c1
     have aB:Hid (je pk x=[(n:Int),(x.key.size:Int)-(n:Int),(x.text.size:Int),(x.val.size:Int)]++bI (x.key.extract n x.key.size)++bI x.text++bI x.val):=by show _=_;rw[ap9,au]
     have am:=xh x.key n aF;have aj:Hid _:=am;clear a8 au a6 am;rcases h3 with c1|⟨c1,c2⟩|⟨c1,c2,hq⟩;all_goals (first
      | (
        have d0:¬ n<pk.size:=c1;go_wp2;have d1:decide ((n:Int)<(pk.size:Int))=false:=decide_eq_false (by omega);go_quiet (fail))
      | (
        have d0:¬ n<x.key.size:=c2;have e1:(n:Int)<(pk.size:Int):=by omega
        go_wp2;have d1:decide ((n:Int)<(x.key.size:Int))=false:=decide_eq_false (by omega);go_quiet (fail))
      | (
        have d0:((bAt pk n).toNat:Int)≠((bAt x.key n).toNat:Int):=hq;have e1:(n:Int)<(pk.size:Int):=by omega
        have e2:(n:Int)<(x.key.size:Int):=by omega
        have x1:=d5 pk n c1;have x2:=d5 x.key n c2;generalize ((bAt pk n).toNat:Int)=z1 at *;generalize ((bAt x.key n).toNat:Int)=z2 at *;clear hq;go_wp2;go_quiet (fail)))
     all_goals
      obtain⟨w2,a5⟩:∃ w2,Hid (w2=wr.drewN nq):=⟨_,rfl⟩
      have Y2:By6 w2 w.heap.size u3 bs:=by rw[a5.out];exact HY.out.below (nr _)
      have X2:di w2 bx x:=by rw[a5.out];exact HX.out.below (nr _)
      have B2:Below w.heap.size w w2:=by rw[a5.out];exact a4.out.trans ((nr _).mono a4.out.size)
      rw[<- a5.out];clear a5 HY HX a4 q0 q1 q2 a3;obtain⟨q0,q1,q2⟩:=X2.cells;have a3:=X2.lt;have aH:=B2.size;unfold By6 at Y2;go_wp2_with (at_builtin;refine wpList_append_own _ rfl _ _ 22 rfl w.heap.size 5 i0 (.int .u8 0) 1 1 underlying22 hi0 aa a7 a9 rfl (by decide) _ _ _ rfl (Y2.alloc _) ⟨w2.heap.size,0,none⟩ 4 4 [.int .u8 (n:Int),.int .u8 ((x.key.size:Int)-(n:Int)),.int .u8 (x.text.size:Int),.int .u8 (x.val.size:Int)] rfl rfl (H0 _ _ _ _ _ _ _ (by simp)) (fun u hu=>by simp at hu;rcases hu with rfl|rfl|rfl|rfl <;> rfl) (by unfold maxLen;omega) (by omega) (by simp;omega) ?_)
      intro v4 w4 ao ad _;have X4:=(X2.alloc (.cells #[.int .u8 (n:Int),.int .u8 ((x.key.size:Int)-(n:Int)),.int .u8 (x.text.size:Int),.int .u8 (x.val.size:Int)] 5)).kept (Y2.alloc _) ad;have B4:Below w.heap.size w w4:=oy (B2.alloc B2.size _) (Y2.alloc _) ad (by simp;omega);have I4:By6 w4 w.heap.size v4 (bs++[(n:Int),(x.key.size:Int)-(n:Int),(x.text.size:Int),(x.val.size:Int)]):=By6.app (n:=4) rfl ao;clear q0 q1 q2 a3 ad ao Y2 X2 B2 aH;have aN:(x.key.extract n x.key.size).size≤255:=by have:=aj.out;omega
      have Y4:=I4;unfold By6 at Y4;have aP:(bs++[(n:Int),(x.key.size:Int)-(n:Int),(x.text.size:Int),(x.val.size:Int)]).length≤196102:=by simp only[List.length_append,List.length_cons,List.length_nil];omega
      obtain⟨q0,q1,q2⟩:=X4.cells;have a3:=X4.lt;have aI:=B4.size;generalize hbs4:(bs++[(n:Int),(x.key.size:Int)-(n:Int),(x.text.size:Int),(x.val.size:Int)])=b4 at *;have aw:Hid _:=hbs4;clear hbs4;go_wp2_with (at_builtin;refine Lib.wpList_append_own_string _ rfl _ _ 22 9 rfl w.heap.size 5 i0 underlying22 underlying9 hi0 aa a7 a9 _ _ _ rfl Y4 (x.key.extract n x.key.size) rfl (by unfold maxLen;omega) (by omega) (by omega) ?_)
      intro v5 w5 ap ae _;have X5:=X4.kept Y4 ae;have B5:Below w.heap.size w w5:=oy B4 Y4 ae (by omega);have I5:By6 w5 w.heap.size v5 (b4++bI (x.key.extract n x.key.size)):=By6.str aj.out.symm ap;clear q0 q1 q2 a3 ae ap Y4 X4 B4 aI I4;have Y5:=I5;unfold By6 at Y5;have aQ:(b4++bI (x.key.extract n x.key.size)).length≤196357:=by simp only[List.length_append,Gq];omega
      obtain⟨q0,q1,q2⟩:=X5.cells;have a3:=X5.lt;have aJ:=B5.size;generalize hbs5:(b4++bI (x.key.extract n x.key.size))=b5 at *;have ax:Hid _:=hbs5;clear hbs5;go_wp2_with (at_builtin;refine Lib.wpList_append_own_string _ rfl _ _ 22 9 rfl w.heap.size 5 i0 underlying22 underlying9 hi0 aa a7 a9 _ _ _ rfl Y5 x.text rfl (by unfold maxLen;omega) (by omega) (by omega) ?_)
      intro v6 w6 aq af _;have X6:=X5.kept Y5 af;have B6:Below w.heap.size w w6:=oy B5 Y5 af (by omega);have I6:By6 w6 w.heap.size v6 (b5++bI x.text):=By6.str rfl aq;clear q0 q1 q2 a3 af aq Y5 X5 B5 aJ I5;have Y6:=I6;unfold By6 at Y6;have aR:(b5++bI x.text).length≤196612:=by simp only[List.length_append,Gq];omega
      obtain⟨q0,q1,q2⟩:=X6.cells;have a3:=X6.lt;have aK:=B6.size;generalize hbs6:(b5++bI x.text)=b6 at *;have ay:Hid _:=hbs6;clear hbs6;go_wp2_with (at_builtin;refine Lib.wpList_append_own_string _ rfl _ _ 22 9 rfl w.heap.size 5 i0 underlying22 underlying9 hi0 aa a7 a9 _ _ _ rfl Y6 x.val rfl (by unfold maxLen;omega) (by omega) (by omega) ?_)
      intro v7 w7 ar ah _;have X7:=X6.kept Y6 ah;have B7:Below w.heap.size w w7:=oy B6 Y6 ah (by omega);have I7:By6 w7 w.heap.size v7 (b6++bI x.val):=By6.str rfl ar;clear q0 q1 q2 a3 ah ar Y6 X6 B6 aK I6;obtain⟨q0,q1,q2⟩:=X7.cells;have a3:=X7.lt;have az:Hid (By6 _ _ _ _):=I7;have av:Hid _:=B7;clear I7 X7 B7;go_wp2;refine⟨⟨k+1,an,by go_num,?_,by rw[HK.out],av.out⟩,by simp[intOf];omega⟩;rw[aA.out,aB.out];have h:=az.out;rw[<- ay.out,<- ax.out,<- aw.out]at h;simpa only [List.append_assoc] using h
  .have aE:k=l.length:=by omega
   subst aE;rw[Bk]at hY;have CV:=Mi hY;rw[show [80,71,(l.length:Int)]++eh ⟨#[]⟩ l=et l from rfl]at CV;clear hS hY;go_wp2;go_ret;exact⟨rfl,hb⟩
theorem au1 (x a b:Int) (w:World):Calls prog 34 #[.int .i64 x,.int .i64 a,.int .i64 b] w fun e w'=>e=.returned (.bool (decide (a≤x) && decide (x≤b)))∧w'=w:=by
 by_cases h:a≤x
 .go_enter func34,ntmps34
  go_wp2;go_ret;rw[decide_eq_true h];exact⟨rfl,rfl⟩
 .go_enter func34,ntmps34
  go_wp2;go_ret;rw[decide_eq_false (show ¬ a≤x by omega)];exact⟨rfl,rfl⟩
theorem ug {s:ByteArray} {a i:Nat}(h:a+i<s.size):hd (s.extract a s.size) i=hd s (a+i):=by
 unfold hd;rw[zl s bR h]
theorem Mu (s:ByteArray) (a:Nat):(s.extract a s.size).size=s.size-a:=fh s bR
theorem aw2 {s p:ByteArray} {a:Nat}(h:a+4+hd s (a+1)+hd s (a+2)+hd s (a+3)≤s.size) :
  ld p (s.extract a s.size)=⟨p.extract 0 (hd s a)++s.extract (a+4) (a+4+hd s (a+1)),s.extract (a+4+hd s (a+1)) (a+4+hd s (a+1)+hd s (a+2)),s.extract (a+4+hd s (a+1)+hd s (a+2)) (a+4+hd s (a+1)+hd s (a+2)+hd s (a+3))⟩ ∧
   kp (s.extract a s.size)=s.extract (a+4+hd s (a+1)+hd s (a+2)+hd s (a+3)) s.size:=by
 have e0:hd (s.extract a s.size) 0=hd s a:=ug (by omega);have e1:hd (s.extract a s.size) 1=hd s (a+1):=ug (by omega);have e2:hd (s.extract a s.size) 2=hd s (a+2):=ug (by omega);have e3:hd (s.extract a s.size) 3=hd s (a+3):=ug (by omega);unfold ld kp;rw[e0,e1,e2,e3,Mu];generalize hd s (a+1)=k1 at *;generalize hd s (a+2)=k2 at *;generalize hd s (a+3)=k3 at *;rw[qo s bR (by omega),qo s bR (by omega),qo s bR (by omega),qo s bR (by omega)];have q1:a+(4+k1)=a+4+k1:=by omega
 have q2:a+(4+k1+k2)=a+4+k1+k2:=by omega
 have q3:a+(4+k1+k2+k3)=a+4+k1+k2+k3:=by omega
 have q4:a+(s.size-a)=s.size:=by omega
 rw[q1,q2,q3,q4];exact⟨rfl,rfl⟩
theorem b18 {s p:ByteArray} {a:Nat}(ha:a≤s.size):o6 p (s.extract a s.size)=(decide (a+4≤s.size) && decide (hd s a≤p.size) && decide (a+4+hd s (a+1)+hd s (a+2)+hd s (a+3)≤s.size)):=by
 unfold o6;rw[Mu];by_cases h:a+4≤s.size
 .have e0:hd (s.extract a s.size) 0=hd s a:=ug (by omega)
  have e1:hd (s.extract a s.size) 1=hd s (a+1):=ug (by omega);have e2:hd (s.extract a s.size) 2=hd s (a+2):=ug (by omega);have e3:hd (s.extract a s.size) 3=hd s (a+3):=ug (by omega);rw[e0,e1,e2,e3];congr 1
  .congr 1
   rw[decide_eq_decide];omega
  .rw[decide_eq_decide];omega
 .rw[decide_eq_false h,decide_eq_false (show ¬ 4≤s.size-a by omega)]
  rfl
def b00 (W:World) (s:ByteArray) (v4 v5 v6 v7:Value) (wr:World):Prop :=
 ∃ (k a:Nat) (p:ByteArray) (l:List Rw),k≤hd s 2∧v7=.int .i64 (k:Int)∧v5=.int .i64 (a:Int)∧a≤s.size∧v6=.string p∧p.size≤510∧l.length=k∧Rws wr W.heap.size v4 l ∧
  (rdF (hd s 2-k) p (s.extract a s.size)).map (l++·)=rdF (hd s 2) ⟨#[]⟩ (s.extract 3 s.size)∧Below W.heap.size W wr
theorem Fs (s:ByteArray){a:Nat}(i:Nat) (h:a+i<s.size) (u:World):(Instr.index 9 (.string s) (.int .i64 ((a:Int)+(i:Int)))).run prog u=.ok (.int .u8 (hd s (a+i):Int)) u:=by
 have:=d5 s (a+i) h u;rw[Int.natCast_add]at this;exact this
theorem m5 (s:ByteArray) (i j:Int) (A B:Nat) (h0:i=(A:Int)) (h1:j=(B:Int)) (h2:A≤B) (h3:B≤s.size) (u:World):(Instr.slice 9 (.string s) (some (.int .i64 i)) (some (.int .i64 j)) none).run prog u=.ok (.string (s.extract A B)) u:=by
 subst h0;subst h1;rw[run_slice_string (h:=underlying9) (h0:=by omega) (h1:=by omega) (h2:=by omega)];rfl
theorem Ni:(prog.info? 37).map (fun i=>(i.zero,i.size,i.bytes))=some (some (.agg #[.string ⟨#[]⟩,.string ⟨#[]⟩,.string ⟨#[]⟩]),3,48):=by kernel_rfl
theorem Pg (s:ByteArray) (w:World) (hs:s.size≤1048576) :
  Calls prog 115 #[.string s] w fun e w'=>∃ v,e=.returned (.tuple #[v,.int .i64 (da s)])∧Rws w' w.heap.size v (an s)∧Below w.heap.size w w':=by
 have IN:=au1 (s.size:Int) 3 300 w;have a6:Hid (Rws w w.heap.size (.slice none 0 0) []):=World.ownsRow_nil _ _ _ _
 cases hlo:m9 s
 .have hc:da s=1:=by unfold da;rw[hlo];rfl
  have hr:an s=[]:=by unfold an;rw[hlo];rfl
  have av:(decide ((3:Int)≤(s.size:Int)) && decide ((s.size:Int)≤300))=false:=by
   unfold m9 at hlo;rw[<- hlo];congr 1
   .rw[decide_eq_decide];omega
   .rw[decide_eq_decide];omega
  rw[av]at IN;rw[hc,hr];clear hlo hc hr av;go_enter func115,ntmps115;go_wp2_with fail;refine IN.mono ?_;rintro e w1 ⟨rfl,rfl⟩;clear IN;go_wp2;go_ret2;exact⟨_,rfl,a6.out,bX⟩
 .have al:3≤s.size∧s.size≤300:=by simp[m9]at hlo;exact hlo
  obtain⟨h3,aC⟩:=al;have ai:(decide ((3:Int)≤(s.size:Int)) && decide ((s.size:Int)≤300))=true:=by rw[decide_eq_true (by omega),decide_eq_true (by omega)];rfl
  rw[ai]at IN;have x0:∀ u:World,(Instr.index 9 (.string s) (.int .i64 0)).run prog u=.ok (.int .u8 (hd s 0:Int)) u:=d5 s 0 (by omega)
  have x1:∀ u:World,(Instr.index 9 (.string s) (.int .i64 1)).run prog u=.ok (.int .u8 (hd s 1:Int)) u:=d5 s 1 (by omega)
  cases hmk:lp s
  .have hc:da s=2:=by unfold da;rw[hlo,hmk];rfl
   have hr:an s=[]:=by unfold an;rw[hlo,hmk];rfl
   rw[hc,hr];by_cases aq:hd s 0=80
   .have aJ:¬ hd s 1=71:=fun e=>by simp[lp,aq,e]at hmk
    have aR:¬ (hd s 1:Int)=71:=by omega
    rw[aq]at x0;clear hlo hc hr ai hmk;go_enter func115,ntmps115;go_wp2_with fail;refine IN.mono ?_;rintro e w1 ⟨rfl,rfl⟩;clear IN;go_wp2;go_ret2;exact⟨_,rfl,a6.out,bX⟩
   .have aS:¬ (hd s 0:Int)=80:=by omega
    clear hlo hc hr ai hmk;go_enter func115,ntmps115;go_wp2_with fail;refine IN.mono ?_;rintro e w1 ⟨rfl,rfl⟩;clear IN;go_wp2;go_ret2;exact⟨_,rfl,a6.out,bX⟩
  .have hm:hd s 0=80∧hd s 1=71:=by simp[lp]at hmk;exact hmk
   have hc:da s=if (f4 s).isSome then 0 else 3:=by unfold da;rw[hlo,hmk];rfl
   have hr:an s=(f4 s).getD []:=by unfold an;rw[hlo,hmk];rfl
   rw[hm.1]at x0;rw[hm.2]at x1;have x2:∀ u:World,(Instr.index 9 (.string s) (.int .i64 2)).run prog u=.ok (.int .u8 (hd s 2:Int)) u:=d5 s 2 (by omega)
   have HC:Hid _:=hc;have aB:Hid _:=hr;have a8:Hid (rdF (hd s 2) ⟨#[]⟩ (s.extract 3 s.size)=none→da s=3∧an s=[]):=fun h=>by
    have e:f4 s=none:=by unfold f4;rw[h]
    rw[hc,hr,e];exact⟨rfl,rfl⟩
   have a4:Hid (∀ l,rdF (hd s 2) ⟨#[]⟩ (s.extract 3 s.size)=some l→(kl s l=true→da s=0∧an s=l)∧(kl s l=false→da s=3∧an s=[])):=fun l h=>by
    have e:f4 s=if kl s l then some l else none:=by unfold f4;rw[h]
    refine⟨fun hp=>?_,fun hp=>?_⟩
    .rw[hc,hr,e,hp];exact⟨rfl,rfl⟩
    .rw[hc,hr,e,hp];exact⟨rfl,rfl⟩
   have l2:=jc s 2;have v2:IntKind.i64.wrap (hd s 2:Int)=(hd s 2:Int):=by rw[IntKind.wrap_i64];omega
   obtain⟨i0,hi0,aI,aG,aH⟩:=info_parts Ni;generalize da s=cd at *;generalize an s=rp at *;clear hlo ai hmk hm hc hr HC aB;go_enter func115,ntmps115;go_wp2_with fail;refine IN.mono ?_;rintro e w1 ⟨rfl,rfl⟩;clear IN;go_wp2;go_loopw [4,5,6,7] (fun v4 v5 v6 v7 wr=>b00 w1 s v4 v5 v6 v7 wr) (fun _ _ _ v7 _=>hd s 2-(intOf v7).toNat)
   case atStart=>exact⟨0,3,⟨#[]⟩,[],Nat.zero_le _,rfl,rfl,h3,rfl,Nat.zero_le _,rfl,a6.out,by rw[Nat.sub_zero];cases rdF (hd s 2) ⟨#[]⟩ (s.extract 3 s.size) <;> rfl,bX⟩
   case round =>
    obtain⟨k,a,p,l,hk,rfl,rfl,ha,rfl,hp,hl,hR,hF,hb⟩:=hrel;have ad:Hid (Rws _ _ _ _):=hR;have HF:Hid _:=hF;have HB:Hid _:=hb;obtain⟨ra,rc,rfl⟩:=bz hR;have ao:Hid (l.length=k):=hl;have aM:l.length≤255:=by omega
    clear hR hF hb hl;by_cases aE:k<hd s 2
    .have aL:(k:Int)<(hd s 2:Int):=by omega
     have a7:hd s 2-k=(hd s 2-(k+1))+1:=by omega
     have a0:=b18 (p:=p) ha;by_cases h4:a+4≤s.size
     .have y0:∀ u:World,(Instr.index 9 (.string s) (.int .i64 (a:Int))).run prog u=.ok (.int .u8 (hd s a:Int)) u:=d5 s a (by omega)
      have y1:∀ u:World,(Instr.index 9 (.string s) (.int .i64 ((a:Int)+1))).run prog u=.ok (.int .u8 (hd s (a+1):Int)) u:=Fs s 1 (by omega)
      have y2:∀ u:World,(Instr.index 9 (.string s) (.int .i64 ((a:Int)+2))).run prog u=.ok (.int .u8 (hd s (a+2):Int)) u:=Fs s 2 (by omega)
      have y3:∀ u:World,(Instr.index 9 (.string s) (.int .i64 ((a:Int)+3))).run prog u=.ok (.int .u8 (hd s (a+3):Int)) u:=Fs s 3 (by omega)
      have m0:=jc s a;have m1:=jc s (a+1);have m2:=jc s (a+2);have m3:=jc s (a+3);have u0:IntKind.i64.wrap (hd s a:Int)=(hd s a:Int):=by rw[IntKind.wrap_i64];omega
      have u1:IntKind.i64.wrap (hd s (a+1):Int)=(hd s (a+1):Int):=by rw[IntKind.wrap_i64];omega
      have u2:IntKind.i64.wrap (hd s (a+2):Int)=(hd s (a+2):Int):=by rw[IntKind.wrap_i64];omega
      have u3:IntKind.i64.wrap (hd s (a+3):Int)=(hd s (a+3):Int):=by rw[IntKind.wrap_i64];omega
      have n4:(a:Int)+4≤(s.size:Int):=by omega
      have ag:=aw2 (s:=s) (p:=p) (a:=a);rw[decide_eq_true h4,Bool.true_and]at a0;generalize hd s a=n0 at *;generalize hd s (a+1)=k1 at *;generalize hd s (a+2)=k2 at *;generalize hd s (a+3)=k3 at *;by_cases hn:n0≤p.size
      .have aO:(n0:Int)≤(p.size:Int):=by omega
       rw[decide_eq_true hn,Bool.true_and]at a0;by_cases hD:a+4+k1+k2+k3≤s.size
       .have nD:(a:Int)+4+(k1:Int)+(k2:Int)+(k3:Int)≤(s.size:Int):=by omega
        obtain⟨aw,ax⟩:=ag hD;have am:Hid ((rdF (hd s 2-(k+1)) (ld p (s.extract a s.size)).key (kp (s.extract a s.size))).map ((l++[ld p (s.extract a s.size)])++·)=rdF (hd s 2) ⟨#[]⟩ (s.extract 3 s.size)):=by
         show _=_
         rw[<- HF.out,a7,rdF,a0,decide_eq_true hD,if_pos rfl]
         cases rdF (hd s 2-(k+1)) (ld p (s.extract a s.size)).key (kp (s.extract a s.size)) <;> simp
        rw[aw,ax]at am;have aU:∀ u:World,(Instr.slice 9 (.string s) (some (.int .i64 ((a:Int)+4))) (some (.int .i64 ((a:Int)+4+(k1:Int)))) none).run prog u=.ok (.string (s.extract (a+4) (a+4+k1))) u:=fun u=>m5 s _ _ _ _ (by omega) (by omega) (by omega) (by omega) u
        have aV:∀ u:World,(Instr.slice 9 (.string s) (some (.int .i64 ((a:Int)+4+(k1:Int)))) (some (.int .i64 ((a:Int)+4+(k1:Int)+(k2:Int)))) none).run prog u=.ok (.string (s.extract (a+4+k1) (a+4+k1+k2))) u:=fun u=>m5 s _ _ _ _ (by omega) (by omega) (by omega) (by omega) u
        have aW:∀ u:World,(Instr.slice 9 (.string s) (some (.int .i64 ((a:Int)+4+(k1:Int)+(k2:Int)))) (some (.int .i64 ((a:Int)+4+(k1:Int)+(k2:Int)+(k3:Int)))) none).run prog u=.ok (.string (s.extract (a+4+k1+k2) (a+4+k1+k2+k3))) u:=fun u=>m5 s _ _ _ _ (by omega) (by omega) (by omega) (by omega) u
        have z1:(s.extract (a+4) (a+4+k1)).size=k1:=by rw[fh s (by omega)];omega
        have z0:(p.extract 0 n0).size=n0:=fh p hn;have af:(p.extract 0 n0++s.extract (a+4) (a+4+k1)).size≤510:=by rw[ByteArray.size_append,z0,z1];omega
        have ay:Hid _:=af;generalize s.extract (a+4) (a+4+k1)=e1 at *;generalize s.extract (a+4+k1) (a+4+k1+k2)=e2 at *;generalize s.extract (a+4+k1+k2) (a+4+k1+k2+k3)=e3 at *;have aK:¬ 9223372036854775807<n0+k1:=by omega
        have ap:∀ u:World,u.heap=(wr.alloc (.cells #[.string (p.extract 0 n0++e1),.string e2,.string e3] 37)).heap→u.ownsRow w1.heap.size 37 3 (.slice ra l.length rc) l.length (go l):=fun u hu=>by
         have:=ad.out.below ((Below.refl wr.heap.size wr).alloc bR (.cells #[.string (p.extract 0 n0++e1),.string e2,.string e3] 37));unfold Rws World.ownsRow at this;unfold World.ownsRow;rw[hu];exact this
        have aQ:=HB.out.size;clear a8 a4 HF a0 aw ax ag af x0 x1;go_upto_region 20 with fail
        clear y0 y1 y2 y3 x2;go_cut [4] from 25 to 102 (fun v4 wx=>Rws wx w1.heap.size v4 (l++[⟨p.extract 0 n0++e1,e2,e3⟩])∧Below w1.heap.size w1 wx)
        case first =>
         go_region_law (refine step_append_lies _ rfl (.tmp 74) (.tmp 92) 32 rfl w1.heap.size 37 i0 _ 3 48 underlying32 hi0 aI aG aH rfl (by decide) _ _ _ rfl (ap _ rfl) ⟨wr.heap.size,0,none⟩ 1 1 [.string (p.extract 0 n0++e1),.string e2,.string e3] rfl rfl (C6 _ _ _ _ _ _ rfl) (fun z hz=>by simp at hz;rcases hz with rfl|rfl|rfl <;> rfl) (by omega) (by unfold maxLen;omega) (by omega) (by simp;omega) (wr.heap.size+1) (by simp) ?_;intro g9 ak w9 aF aD _ _)
         all_goals
          have hK:Rws w9 w1.heap.size (.slice (some ⟨g9,0,none⟩) (l.length+1) ak) (l++[⟨p.extract 0 n0++e1,e2,e3⟩])∧Below w1.heap.size w1 w9:=⟨T8 aF,Below.grown (HB.out.alloc HB.out.size _) (Qv aD rfl rfl rfl rfl) (by simp;omega) (fun j hj=>(World.ownsRow.lt ad.out j hj).1)⟩;go_wp2_with fail;go_meet
          case rel=>exact hK
        case rest =>
         obtain⟨au,ar⟩:=hcut;have aA:Hid (Rws _ _ _ _):=au;have ac:Hid (Below w1.heap.size w1 wc):=ar;clear au ar ap ad HB;go_wp2;go_quiet (fail)
         go_wp2;exact⟨⟨k+1,a+4+k1+k2+k3,_,_,aE,by go_num,by go_num,hD,rfl,ay.out,by rw[List.length_append,ao.out];rfl,aA.out.below ⟨rfl,rfl,rfl,bR,fun _ _=>rfl⟩,am.out,⟨ac.out.os,ac.out.tape,ac.out.output,ac.out.size,ac.out.block⟩⟩,by simp[intOf];omega⟩
       .have nD:¬ (a:Int)+4+(k1:Int)+(k2:Int)+(k3:Int)≤(s.size:Int):=by omega
        have a2:=a8.out (by rw[<- HF.out,a7,rdF,a0,decide_eq_false hD];rfl);have a1:Hid _:=a2;clear a8 a4 HF a0 a2 ag;go_wp2;go_ret2;rw[a1.out.1,a1.out.2];exact⟨_,rfl,World.ownsRow_nil _ _ _ _,HB.out⟩
      .have aT:¬ (n0:Int)≤(p.size:Int):=by omega
       have a2:=a8.out (by rw[<- HF.out,a7,rdF,a0,decide_eq_false hn];rfl);have a1:Hid _:=a2;clear a8 a4 HF a0 a2 ag;go_wp2;go_ret2;rw[a1.out.1,a1.out.2];exact⟨_,rfl,World.ownsRow_nil _ _ _ _,HB.out⟩
     .have n4:¬ (a:Int)+4≤(s.size:Int):=by omega
      have a2:=a8.out (by rw[<- HF.out,a7,rdF,a0,decide_eq_false h4];rfl);have a1:Hid _:=a2;clear a8 a4 HF a0 a2;go_wp2;go_ret2;rw[a1.out.1,a1.out.2];exact⟨_,rfl,World.ownsRow_nil _ _ _ _,HB.out⟩
    .have af:k=hd s 2:=by omega
     have a9:rdF (hd s 2) ⟨#[]⟩ (s.extract 3 s.size)=some l:=by rw[<- HF.out,af,Nat.sub_self];simp[rdF]
     obtain⟨a5,a3⟩:=a4.out l a9;have nk:¬ (k:Int)<(hd s 2:Int):=by omega
     have ab:=ew ad.out;have GR:=Xc (cap:=rc) ab (by omega);clear a9 a8 a4 HF ao af x0 x1;by_cases h0:l.length=0
     .have a2:=a3 (by unfold kl;rw[h0];rfl)
      have a1:Hid _:=a2;have e0:(l.length:Int)=0:=by omega
      clear a5 a3 a2 GR ab h0;go_wp2;go_ret2;rw[a1.out.1,a1.out.2];exact⟨_,rfl,World.ownsRow_nil _ _ _ _,HB.out⟩
     .have aN:((l.length:Int) == 0)=false:=by rw[beq_eq_false_iff_ne];omega
      have ah:(l.length == 0)=false:=by simpa using h0
      cases hg:dm l
      .have a2:=a3 (by unfold kl;rw[hg,Bool.and_false];rfl)
       have a1:Hid _:=a2;rw[hg]at GR;clear a5 a3 a2 ab h0 ah hg;go_wp2_with fail;refine GR.mono ?_;rintro e w2 ⟨rfl,b2⟩;clear GR;go_wp2;go_ret2;rw[a1.out.1,a1.out.2];exact⟨_,rfl,World.ownsRow_nil _ _ _ _,HB.out.trans (b2.mono HB.out.size)⟩
      .have hB:=ud hg
       have PG:=fun (u:World) (hu:Below wr.heap.size wr u)=>rq (cap:=rc) (ab.below hu bR) hB
       rw[hg]at GR;by_cases aa:byT (et l)=s
       .have hy:=a5 (by unfold kl;rw[ah,hg,decide_eq_true aa];rfl)
        have a1:Hid _:=hy;rw[aa]at PG;clear a5 a3 hy ab h0 ah hg hB aa;go_wp2_with fail;refine GR.mono ?_;rintro e w2 ⟨rfl,b2⟩;have ae:=PG _ b2;clear GR PG;go_wp2_with fail;refine ae.mono ?_;rintro e w3 ⟨rfl,b3⟩;have aj:Hid (Below w1.heap.size w1 w3):=(HB.out.trans (b2.mono HB.out.size)).trans (b3.mono (HB.out.trans (b2.mono HB.out.size)).size);have az:Hid (Rws w3 w1.heap.size (.slice ra l.length rc) l):=(ad.out.below b2).below b3;clear ae b2 b3;go_wp2;go_ret2;rw[a1.out.1,a1.out.2];exact⟨_,rfl,az.out,aj.out⟩
       .have a2:=a3 (by unfold kl;rw[decide_eq_false aa,Bool.and_false])
        have a1:Hid _:=a2;generalize byT (et l)=pq at *;have aP:=xp aa;clear a5 a3 a2 ab h0 ah hg hB aa;go_wp2_with fail;refine GR.mono ?_;rintro e w2 ⟨rfl,b2⟩;have ae:=PG _ b2;clear GR PG;go_wp2_with fail;refine ae.mono ?_;rintro e w3 ⟨rfl,b3⟩;have aj:Hid (Below w1.heap.size w1 w3):=(HB.out.trans (b2.mono HB.out.size)).trans (b3.mono (HB.out.trans (b2.mono HB.out.size)).size);clear ae b2 b3;go_wp2;go_ret2;rw[a1.out.1,a1.out.2];exact⟨_,rfl,World.ownsRow_nil _ _ _ _,aj.out⟩
end Go.Proofs.YtjbmgghehdemdaaGreatDoor
