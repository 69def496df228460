/- SGood6 -/
import Derived.Test.YtjbmgghehdemdaaGreatDoorMT11
import Derived.Shelf.Pu.Clone
import Derived.Deep.RegionHeld
namespace Go.Proofs.YtjbmgghehdemdaaGreatDoor
set_option maxRecDepth 100000
set_option maxHeartbeats 16000000
open _root_.Go.Proofs.Tryz
open Go.RowKit
theorem L2 {B:Nat} {w u:World}(h:Below B w u) (n:Nat):Below B w (u.drewN n):=⟨h.os,h.tape,h.output,h.size,h.block⟩
def ar5 (w:World) (l:List Rw) (i:Value) (wr:World):Prop:=∃ k:Nat,k≤l.length∧i=.int .i64 k∧(∀ j,j<k→lq l j=true)∧Below w.heap.size w wr
theorem Xc {w:World} {a:Option Addr} {l:List Rw} {cap:Nat}(hS:dd w a l) (hl:l.length≤9223372036854775807) :
  Calls prog 141 #[.slice a l.length cap] w fun e w'=>e=.returned (.bool (dm l))∧Below w.heap.size w w':=by
 by_cases a8:l.length≤60
 .obtain⟨ans,HANS⟩:∃ ans,Hid (dm l=ans):=⟨_,rfl⟩
  rw[HANS.out];go_enter func141,ntmps141;go_wp2;go_loopw [10] (fun i wr=>ar5 w l i wr) (fun i _=>l.length-(intOf i).toNat)
  case atStart=>exact⟨0,Nat.zero_le _,rfl,fun j hj=>by omega,bX⟩
  case round =>
   obtain⟨k,hk,rfl,hR,hb⟩:=hrel;have HR:Hid _:=hR;clear hR;by_cases a5:k<l.length
   .obtain⟨x,hx⟩:∃ x,l[k]? = some x:=⟨_,List.getElem?_eq_getElem a5⟩
    have a9:=hS.below hb bR;rcases a9 with rfl|⟨b,o,rfl,hE⟩
    .simp at hx
    obtain⟨a0,a1,a2⟩:=hE k x hx;have ac:=ag a0;have ah:(k:Int)<(l.length:Int):=by omega
    have HB:Hid (∀ o n,Below w.heap.size w ((wr.alloc o).drewN n)):=fun o n=>L2 (hb.alloc hb.size o) n
    have ab:Hid (∀ o,Below w.heap.size w (wr.alloc o)):=fun o=>hb.alloc hb.size o
    clear hS hb;by_cases c0:x.key.size≤200
    .by_cases c1:x.text.size≤80
     .by_cases c2:x.val.size≤80
      .have hz:=Gd c0 c1 c2
       have a3:Hid (¬ (200:Int)<(x.key.size:Int)):=(by omega:¬ (200:Int)<(x.key.size:Int));have a4:Hid (¬ (80:Int)<(x.text.size:Int)):=(by omega:¬ (80:Int)<(x.text.size:Int));have a7:Hid (¬ (80:Int)<(x.val.size:Int)):=(by omega:¬ (80:Int)<(x.val.size:Int))
       cases k with
       | zero =>
        simp only[Nat.zero_mul,Nat.add_zero]at a0 a1 a2;have HN:Hid _:=yh HR.out (by rw[Ko hx];exact hz);clear hE hx HR hz HANS c0 c1 c2;go_wp2;have d0:decide ((200:Int)<(x.key.size:Int))=false:=decide_eq_false (by have:=a3.out;omega);have d1:decide ((80:Int)<(x.text.size:Int))=false:=decide_eq_false (by have:=a4.out;omega);have d2:decide ((80:Int)<(x.val.size:Int))=false:=decide_eq_false (by have:=a7.out;omega);go_quiet (fail)
        go_wp2;exact⟨⟨1,by omega,by go_num,HN.out,HB.out _ _⟩,by simp[intOf];omega⟩
       | succ j =>
        obtain⟨y,hy⟩:∃ y,l[j]? = some y:=⟨_,List.getElem?_eq_getElem (by omega)⟩
        obtain⟨p0,_,_⟩:=hE j y hy;have ad:(((j+1:Nat):Int)-1).toNat=j:=by omega
        have ae:((j+1:Nat):Int)-1=(j:Int):=by omega
        have af:(j:Int)<(l.length:Int):=by omega
        have a6:=Kn hx hy;rw[hz,Bool.true_and]at a6
        cases hlk:ltK y.key x.key
        .have HF:Hid (ans=false):=by show _=_;rw[<- HANS.out];exact n5 a5 (a6.trans hlk)
         unfold ltK at hlk;clear hE hx hy HR hz HANS c0 c1 c2 a6;go_wp2;have d0:decide ((200:Int)<(x.key.size:Int))=false:=decide_eq_false (by have:=a3.out;omega);have d1:decide ((80:Int)<(x.text.size:Int))=false:=decide_eq_false (by have:=a4.out;omega);have d2:decide ((80:Int)<(x.val.size:Int))=false:=decide_eq_false (by have:=a7.out;omega);go_quiet (fail)
         go_wp2;go_ret;rw[HF.out];exact⟨rfl,HB.out _ _⟩
        .have HN:Hid _:=yh HR.out (a6.trans hlk)
         unfold ltK at hlk;clear hE hx hy HR hz HANS c0 c1 c2 a6;go_wp2;have d0:decide ((200:Int)<(x.key.size:Int))=false:=decide_eq_false (by have:=a3.out;omega);have d1:decide ((80:Int)<(x.text.size:Int))=false:=decide_eq_false (by have:=a4.out;omega);have d2:decide ((80:Int)<(x.val.size:Int))=false:=decide_eq_false (by have:=a7.out;omega);go_quiet (fail)
         go_wp2;exact⟨⟨j+1+1,by omega,by go_num,HN.out,HB.out _ _⟩,by simp[intOf];omega⟩
      .have a3:Hid (¬ (200:Int)<(x.key.size:Int)):=(by omega:¬ (200:Int)<(x.key.size:Int))
       have a4:Hid (¬ (80:Int)<(x.text.size:Int)):=(by omega:¬ (80:Int)<(x.text.size:Int));have d2:(80:Int)<(x.val.size:Int):=by omega
       have HF:Hid (ans=false):=by show _=_;rw[<- HANS.out];exact n5 a5 (wk hx (Tg c2))
       clear hE hx HR HANS c0 c1 c2;go_wp2;have d0:decide ((200:Int)<(x.key.size:Int))=false:=decide_eq_false (by have:=a3.out;omega);have d1:decide ((80:Int)<(x.text.size:Int))=false:=decide_eq_false (by have:=a4.out;omega);go_quiet (fail)
       go_wp2;go_ret;rw[HF.out];exact⟨rfl,HB.out _ _⟩
     .have a3:Hid (¬ (200:Int)<(x.key.size:Int)):=(by omega:¬ (200:Int)<(x.key.size:Int))
      have d1:(80:Int)<(x.text.size:Int):=by omega
      have HF:Hid (ans=false):=by show _=_;rw[<- HANS.out];exact n5 a5 (wk hx (Pl c1))
      clear hE hx HR HANS c0 c1;go_wp2;have d0:decide ((200:Int)<(x.key.size:Int))=false:=decide_eq_false (by have:=a3.out;omega);go_quiet (fail)
      go_wp2;go_ret;rw[HF.out];exact⟨rfl,HB.out _ _⟩
    .have d0:(200:Int)<(x.key.size:Int):=by omega
     have HF:Hid (ans=false):=by show _=_;rw[<- HANS.out];exact n5 a5 (wk hx (Tf c0))
     clear hE hx HR HANS c0;go_wp2;go_quiet (fail)
     go_wp2;go_ret;rw[HF.out];exact⟨rfl,HB.out _ _⟩
   .have aa:k=l.length:=by omega
    subst aa;have HF:Hid (ans=true):=by show _=_;rw[<- HANS.out];exact ue a8 HR.out
    clear hS HR HANS;go_wp2;go_ret;rw[HF.out];exact⟨rfl,hb⟩
 .have hc:¬ (l.length:Int)≤60:=by omega
  rw[Hh a8];clear hS;go_enter func141,ntmps141;go_wp2;go_ret;exact⟨rfl,bX⟩
def ae6:Go.Shelf.Ren:=⟨fun|25=>148|n=>n,fun|0=>0|3=>3|4=>4|5=>5|9=>9|37=>22|47=>234|n=>n,fun|n=>n⟩
theorem b34:Go.Proofs.LaysPu.n25 prog ae6:={
 mixed:=by kernel_rfl
 f25:=Tryz.func148.trans (congrArg some (by kernel_rfl))
 t0:=underlying0
 a0:=Tryz.isAgg0
 z0:=Tryz.sizeOf0
 v0:=Tryz.zeroValue0
 i0:=by kernel_rfl
 t3:=underlying3
 a3:=Tryz.isAgg3
 z3:=Tryz.sizeOf3
 v3:=Tryz.zeroValue3
 i3:=by kernel_rfl
 t4:=underlying4
 a4:=Tryz.isAgg4
 z4:=Tryz.sizeOf4
 v4:=Tryz.zeroValue4
 i4:=by kernel_rfl
 t5:=underlying5
 a5:=Tryz.isAgg5
 z5:=Tryz.sizeOf5
 v5:=Tryz.zeroValue5
 i5:=by kernel_rfl
 t9:=underlying9
 a9:=Tryz.isAgg9
 z9:=Tryz.sizeOf9
 v9:=Tryz.zeroValue9
 i9:=by kernel_rfl
 t37:=underlying22
 a37:=Tryz.isAgg22
 z37:=Tryz.sizeOf22
 v37:=Tryz.zeroValue22
 i37:=by kernel_rfl
 t47:=underlying234
 a47:=Tryz.isAgg234
 z47:=Tryz.sizeOf234
 v47:=Tryz.zeroValue234
 i47:=by kernel_rfl }
theorem Jm (s:ByteArray) (w:World) (hs:s.size≤1048576):Calls prog 123 #[.string s] w fun e w'=>e=.returned (.string s)∧Below w.heap.size w w':=by
 have C:Calls prog 148 #[.string s] w fun e w'=>e=.returned (.string s)∧Below w.heap.size w w':=Go.Proofs.AnyPu.stringslite_Clone b34 s w (by omega)
 go_enter func123,ntmps123;go_wp2_with fail;refine C.mono ?_;rintro e w1 ⟨rfl,b1⟩;clear C;go_wp2;go_ret;exact⟨rfl,b1⟩
theorem Bh (w:World) (a b:Option Addr) (c d:Nat):Calls prog 12 #[.slice a 0 c,.slice b 0 d] w fun e w'=>e=.returned (.bool true)∧Below w.heap.size w w':=by
 go_enter func12,ntmps12;go_wp2;go_loopw [13] (fun i wr=>i=.int .i64 0∧wr=w) (fun _ _=>0)
 case atStart=>exact⟨rfl,rfl⟩
 case round =>
  obtain⟨rfl,rfl⟩:=hrel;go_wp2;go_ret;exact⟨rfl,bX⟩
def az4 (w:World) (n:Nat) (i:Value) (wr:World):Prop:=∃ k:Nat,k≤n∧i=.int .i64 k∧Below w.heap.size w wr
theorem a40 (w:World) (B B' g g' cap a3:Nat) (es:List Rw) (hz:es.length≤1048576) (h1:Rws w B (.slice (some ⟨g,0,none⟩) es.length cap) es) (h2:Rws w B' (.slice (some ⟨g',0,none⟩) es.length a3) es) :
  Calls prog 12 #[.slice (some ⟨g,0,none⟩) es.length cap,.slice (some ⟨g',0,none⟩) es.length a3] w fun e w'=>e=.returned (.bool true)∧Below w.heap.size w w':=by
 have hg:=(World.ownsRow.lt h1 g rfl).2;have a5:=(World.ownsRow.lt h2 g' rfl).2;go_enter func12,ntmps12;go_wp2;go_loopw [13] (fun i wr=>az4 w es.length i wr) (fun i _=>es.length-(intOf i).toNat)
 case atStart=>exact⟨0,Nat.zero_le _,rfl,bX⟩
 case round =>
  obtain⟨k,hk,rfl,hb⟩:=hrel;by_cases a4:k<es.length
  .obtain⟨e,he⟩:∃ e,es[k]? = some e:=⟨_,List.getElem?_eq_getElem a4⟩
   obtain⟨a0,a1,a2⟩:=(h1.below hb).cells k e he;obtain⟨b0,b1,b2⟩:=(h2.below hb).cells k e he;have a6:(k:Int)<(es.length:Int):=by omega
   clear he h1 h2;go_wp2_with fail;go_region
   all_goals
    go_wp2;exact⟨⟨k+1,by omega,by go_num,hb.drew⟩,by simp[intOf];omega⟩
  .go_wp2
   go_ret;exact⟨rfl,hb⟩
theorem a39 {w:World} {B B':Nat} {a b:Value} {es:List Rw}(hz:es.length≤1048576) (ha:Rws w B a es) (hb:Rws w B' b es) :
  Calls prog 12 #[a,b] w fun e w'=>e=.returned (.bool true)∧Below w.heap.size w w':=by
 rcases ha.form with ⟨rfl,rfl⟩|⟨g,cap,rfl,h1,h2⟩
 .rcases hb.form with ⟨rfl,_⟩|⟨g',a0,rfl,_,_⟩
  .exact Bh w _ _ _ _
  .exact Bh w _ _ _ _
 .rcases hb.form with ⟨rfl,rfl⟩|⟨g',a0,rfl,_,_⟩
  .exact Bh w _ _ _ _
  .exact a40 w B B' g g' cap a0 es hz ha hb
end Go.Proofs.YtjbmgghehdemdaaGreatDoor
