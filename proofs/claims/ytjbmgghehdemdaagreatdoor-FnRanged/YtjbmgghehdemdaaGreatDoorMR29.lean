/- IBhd7 -/
import Derived.Test.YtjbmgghehdemdaaGreatDoorMR28
import Derived.Test.YtjbmgghehdemdaaGreatDoorMR18
import Derived.Test.YtjbmgghehdemdaaGreatDoorMR19
import Derived.Test.YtjbmgghehdemdaaGreatDoorMR20
namespace Go.Proofs.YtjbmgghehdemdaaGreatDoor
set_option maxRecDepth 100000
set_option maxHeartbeats 16000000
open _root_.Go.Proofs.Tryz
open Go.RowKit
def ny (u:World) (b:Nat) (ve:Value) (sh:Bool) (lv:Int) (r:ByteArray) (vp:Value) (log:ByteArray) (syn:Int) (vr:Value):Prop :=
 u.heap[b]? = some (.cells #[ve,.bool sh,.int .i64 lv,.string r,vp,.string log,.int .i64 syn,vr] 71)
theorem ny.lt {u:World} {b:Nat} {a:Value} {sh:Bool} {lv:Int} {r:ByteArray} {c:Value} {log:ByteArray} {syn:Int} {vr:Value}(h:ny u b a sh lv r c log syn vr):b<u.heap.size:=(Array.getElem?_eq_some_iff.1 h).1
theorem ny.below {u u':World} {b:Nat} {a:Value} {sh:Bool} {lv:Int} {r:ByteArray} {c:Value} {log:ByteArray} {syn:Int} {vr:Value}(h:ny u b a sh lv r c log syn vr) (d:Below u.heap.size u u'):ny u' b a sh lv r c log syn vr:=(d.block b h.lt).trans h
theorem ny.facts {u:World} {b:Nat} {a:Value} {sh:Bool} {lv:Int} {r:ByteArray} {c:Value} {log:ByteArray} {syn:Int} {vr:Value}(h:ny u b a sh lv r c log syn vr) :
  b<u.heap.size/\u.cell? ⟨b,0,none⟩=some a/\u.cell? ⟨b,1,none⟩=some (.bool sh)/\u.cell? ⟨b,2,none⟩=some (.int .i64 lv)/\u.cell? ⟨b,3,none⟩=some (.string r)/\u.cell? ⟨b,4,none⟩=some c/\u.cell? ⟨b,5,none⟩=some (.string log)/\u.cell? ⟨b,6,none⟩=some (.int .i64 syn)/\u.cell? ⟨b,7,none⟩=some vr/\∀ j,u.frozen? ⟨b,j,none⟩=false :=
 ⟨h.lt,cell_of_row _ _ 0 _ _ _ h,cell_of_row _ _ 1 _ _ _ h,cell_of_row _ _ 2 _ _ _ h,cell_of_row _ _ 3 _ _ _ h,cell_of_row _ _ 4 _ _ _ h,cell_of_row _ _ 5 _ _ _ h,cell_of_row _ _ 6 _ _ _ h,cell_of_row _ _ 7 _ _ _ h,fun j=>frozen_of_row _ _ j _ _ h⟩
theorem Bi:∀ w:World,(sizeOf 37).run prog w=.ok 3 w:=fun w=>by kernel_rfl
theorem tf {P:Program}(u:World) (t e:TypeId) (n:Nat) (ht:P.underlying t=some (.slice e)) (b:∀ w:World,(sizeOf e).run P w=.ok n w) (a:Option Addr) (len cap i:Nat) (hi:i<=len) :
  (Instr.slice t (.slice a len cap) (some (.int .i64 (i:Int))) none none).run P u=.ok (.slice (if cap=i then a else a.map (·.add (i*n))) (len-i) (cap-i)) u:=by
 simp[Instr.slice,Instr.sliceBounds,Instr.sliceBound,run_underlying ht,asIntOf,b,hi]
theorem rz {R:RA} {l:List Rw} {o:Dn}(h:(gn R o.text && decide (o.val.size<=60))=false):apC R l o=2:=by unfold apC;rw[if_pos h]
theorem Im {R:RA} {l:List Rw} {o:Dn}(h:(gn R o.text && decide (o.val.size<=60))=true) (a:o.put=true):apC R l o=if (gz l (Cy R o)).length<=60 then 0 else 3:=by unfold apC;rw[if_neg (by rw[h];simp),if_pos a]
theorem Fg {R:RA} {l:List Rw} {o:Dn}(h:(gn R o.text && decide (o.val.size<=60))=true) (a:o.put=false):apC R l o=if d9 l (bh R o.text)=true then 0 else 4:=by unfold apC;rw[if_neg (by rw[h];simp),if_neg (by rw[a];simp)]
def ar1 (w:World) (R:RA) (l:List Rw) (o:Dn) (pl pf pn:Addr) (e:Ending) (w':World):Prop :=
 ((apC R l o=0/\∃ v,e=.returned (.tuple #[v,.nilIface])/\Rws w' w.heap.size v (apR R l o))\/(apC R l o=2/\e=.returned (.tuple #[.slice none 0 0,.iface 298 (.pointer (some pl))])) \/
  (apC R l o=3/\e=.returned (.tuple #[.slice none 0 0,.iface 298 (.pointer (some pf))]))\/(apC R l o=4/\e=.returned (.tuple #[.slice none 0 0,.iface 298 (.pointer (some pn))])))/\Below w.heap.size w w'
theorem J5 {w:World} {B Bl b:Nat} {ve:Value} {R:RA} {r:ByteArray} {vp:Value} {log:ByteArray} {syn:Int} {vr:Value} {l:List Rw} {pb pl pf pn:Addr}(o:Dn) (aU:o.text.size<=1048576) (b2:o.val.size<=1048576)
  (hI:ny w b ve R.sh R.lv r vp log syn vr) (hR:Ru7 w B ve R) (hV:Ev7 w pb pl pf pn) (hl:Rws w Bl vr l) (a3:lm l) (aX:l.length<=60) :
  Calls prog 89 #[.pointer (some ⟨b,0,none⟩),.agg #[.int .i64 (kn7 o),.string o.text,.string o.val]] w fun e w'=>ar1 w R l o pl pf pn e w':=by
 obtain⟨va,vc,rfl⟩:=hR.form;obtain⟨W,hW⟩:∃ W,W=w.alloc (.cells #[.int .i64 (kn7 o),.string o.text,.string o.val] 27):=⟨_,rfl⟩
 have bA:Below w.heap.size w W:=by rw[hW];exact bY _
 have K:Hid (gi W w.heap.size (kn7 o) o.text o.val):=by show _=_;rw[hW];exact heap_alloc_new w _
 have HI:=hZ (hI.below bA);have HR:=hZ (hR.below bA);have HV:=hZ (hV.below bA);have HL:=hZ (hl.below bA);have t:=hZ bA;have L:Hid (W=w.alloc (.cells #[.int .i64 (kn7 o),.string o.text,.string o.val] 27)):=hW;obtain⟨ar,j,aW⟩:=bz hl;subst aW;have b1:w.heap.size<W.heap.size:=by rw[hW];simp
 have f:=fun (u:World) (i:Below W.heap.size W u)=>Ws o.text aU (HR.out.below i) (HV.out.below i)
 obtain⟨I,M,N,O,Q,S,T,U,V,X⟩:=HI.out.facts;obtain⟨J,A,Y,Z⟩:=K.out.facts;have am:=hZ a3;clear hI hR hV hl bA hW a3;by_cases a1:gn R o.text=true
 .have ad:∀ u:World,Below W.heap.size W u->Calls prog 94 #[.agg #[.slice va R.es.length vc,.bool R.sh,.int .i64 R.lv],.string o.text] u fun e w'=>e=.returned (.tuple #[.string (bh R o.text),.nilIface])/\Below u.heap.size u w':=fun u i=>by
   have q:=f u i;rw[if_pos a1]at q;exact q
  clear f;have f:=ad;clear ad;obtain⟨key,a5⟩:∃ key,key=bh R o.text:=⟨_,rfl⟩
  rw[<- a5]at f;have a4:Hid (key=bh R o.text):=a5;clear a5;by_cases af:o.val.size<=60
  .have ae:(gn R o.text && decide (o.val.size<=60))=true:=by rw[a1,decide_eq_true af];rfl
   have aV:¬ (60:Int)<(o.val.size:Int):=by omega
   cases hput:o.put
   .have x:=Fg (l:=l) ae hput
    have aa:kn7 o=2:=by unfold kn7;rw[hput];rfl
    have a0:apR R l o=qz l key:=by unfold apR;rw[hput,a4.out];rfl
    rw[<- a4.out]at x;rw[aa]at A L K ⊢;have ab:Hid (apR R l o=qz l key):=a0;have E:=fun (u:World) (i:Below W.heap.size W u)=>zf (c:=j) key (ew (HL.out.below i)) (by omega)
    cases hth:d9 l key
    .have aG:apC R l o=4:=by rw[x,hth];rfl
     have aK:Hid (apC R l o=4):=aG;rw[hth]at E;generalize az l key=p at E;clear x aG hth ae aa a0;go_enter func89,ntmps89;go_upto_region 1 with fail
     rw[<- L.out];go_cut [6,7] from 11 to 20 (fun v6 k wx=>v6=.string key/\k=.nilIface/\Below W.heap.size W wx)
     case first =>
      go_region_with (go_at_call 94;refine (f _ (by repeat (first|exact bX|refine Below.drew ?_))).mono ?_;rintro e w5 ⟨rfl,a⟩;have C:Below W.heap.size W w5:=⟨a.os,a.tape,a.output,a.size,a.block⟩;clear a)
      all_goals
       go_simp;go_wp2_with fail;go_meet
       case rel=>exact⟨rfl,rfl,C⟩
     case rest =>
      obtain⟨y,z,a⟩:=hcut;subst y;subst z;have ac:=E wc a;obtain⟨I,M,N,O,Q,S,T,U,V,X⟩:=(HI.out.below a).facts;obtain⟨J,A,Y,Z⟩:=(K.out.below a).facts;have m:=hZ a;clear E a f;go_wp2_with fail;refine ac.mono ?_;rintro e w6 ⟨rfl,b6⟩;have hn:=(HV.out.below (m.out.trans (b6.mono m.out.size))).none_;have aZ:=ag hn;have ai:=hZ (t.out.trans ((m.out.trans (b6.mono m.out.size)).mono t.out.size));clear ac b6 M N O Q S T U V X I A Y Z J;go_wp2;go_quiet (fail)
      go_wp2;go_ret2;exact⟨.inr (.inr (.inr ⟨aK.out,rfl⟩)),po ai.out _⟩
    .have aF:apC R l o=0:=by rw[x,hth];rfl
     have ao:Hid (apC R l o=0):=aF;rw[hth]at E;have aw:=(py am.out hth).2;have aA:Hid ((qz l key).length=l.length-1):=Ym am.out hth;have al:Hid (qz l key=l.take (az l key)++l.drop (az l key+1)):=rfl;obtain⟨D,HD⟩:∃ D,Hid (qz l key=D):=⟨_,rfl⟩
     rw[HD.out]at ab aA al;generalize az l key=p at E aw al;obtain⟨g,an,hv,aY,aO⟩:∃ g an,Value.slice ar l.length j=.slice (some ⟨g,0,none⟩) l.length an/\l.length<=an/\an<=maxLen:=by
      rcases HL.out.form with ⟨_,h0⟩|h
      .rw[h0]at aw;simp at aw
      .exact h
     injection hv with e1 _ e3;subst e1;subst e3;obtain⟨d,aI⟩:∃ d,d=p+1:=⟨_,rfl⟩
     rw[<- aI]at al;have aQ:(p:Int)+1=(d:Int):=by omega
     have aR:IntKind.i64.wrap (d:Int)=(d:Int):=by unfold maxLen at aO;rw[IntKind.wrap_i64];omega
     have b0:(p:Int)<=(j:Int):=by omega
     have aS:(d:Int)<=(l.length:Int):=by omega
     have aT:(p:Int)<=(l.length:Int):=by omega
     clear x aF hth ae aa a0 aI;go_enter func89,ntmps89;go_upto_region 1 with fail
     rw[<- L.out];go_cut [6,7] from 11 to 20 (fun v6 k wx=>v6=.string key/\k=.nilIface/\Below W.heap.size W wx)
     case first =>
      go_region_with (go_at_call 94;refine (f _ (by repeat (first|exact bX|refine Below.drew ?_))).mono ?_;rintro e w5 ⟨rfl,a⟩;have C:Below W.heap.size W w5:=⟨a.os,a.tape,a.output,a.size,a.block⟩;clear a)
      all_goals
       go_simp;go_wp2_with fail;go_meet
       case rel=>exact⟨rfl,rfl,C⟩
     case rest =>
      obtain⟨y,z,a⟩:=hcut;subst y;subst z;have ac:=E wc a;obtain⟨I,M,N,O,Q,S,T,U,V,X⟩:=(HI.out.below a).facts;obtain⟨J,A,Y,Z⟩:=(K.out.below a).facts;have m:=hZ a;clear E a f;go_wp2_with fail;refine ac.mono ?_;rintro e w6 ⟨rfl,b6⟩;have a9:Below W.heap.size W w6:=m.out.trans (b6.mono m.out.size);have ai:=hZ a9;obtain⟨I,M,N,O,Q,S,T,U,V,X⟩:=(HI.out.below a9).facts;have aD:Hid ((l.take p).length=p):=by show _=_;rw[List.length_take];omega
      have aq:Hid ((l.drop d).length=l.length-d):=List.length_drop;have aB:Hid (SlV w6 (.slice (some ⟨g,0,none⟩) p j) (l.take p)):=⟨_,_,by rw[aD.out],(ew (HL.out.below a9)).take p⟩;obtain⟨F,H,G,aC,ax⟩:∃ (F:Option Addr) (H G:Nat),Hid (SlV w6 (.slice F H G) (l.drop d))/\∀ u:World,(Instr.slice 32 (.slice (some ⟨g,0,none⟩) l.length j) (some (.int .i64 (d:Int))) none none).run prog u=.ok (.slice F H G) u:=by
       by_cases aH:j=d
       .refine⟨some ⟨g,0,none⟩,0,0,⟨_,_,by rw[aq.out,show l.length-d=0 by omega],.inl (List.drop_eq_nil_of_le (by omega))⟩,fun u=>?_⟩
        have:=tf (P:=prog) u 32 37 3 underlying32 Bi (some ⟨g,0,none⟩) l.length j d (by omega);rw[this,if_pos aH,show l.length-d=0 by omega,show j-d=0 by omega]
       .refine⟨some ⟨g,d*3,none⟩,l.length-d,j-d,⟨_,_,by rw[aq.out],by have h9:=(ew (HL.out.below a9)).drop d;rw[Nat.zero_add]at h9;exact h9⟩,fun u=>?_⟩
        have:=tf (P:=prog) u 32 37 3 underlying32 Bi (some ⟨g,0,none⟩) l.length j d (by omega);rw[this,if_neg aH];simp[Addr.add]
        try omega
      have bT:Below w6.heap.size w6 (w6.alloc (.cells #[.slice (some ⟨g,0,none⟩) p j,.slice F H G] 32)):=bY _;have ak:=hZ bT;have ay:Hid (∀ u:World,u.heap=(w6.alloc (.cells #[.slice (some ⟨g,0,none⟩) p j,.slice F H G] 32)).heap->Calls prog 86 #[.slice (some ⟨w6.heap.size,0,none⟩) 2 2] u fun e w'=>∃ v,e=.returned v/\Rws w' u.heap.size v D/\Below u.heap.size u w'):=fun u i=>by
       have q:=Qb u w6.heap.size _ _ (l.take p) (l.drop d) (by rw[i];exact heap_alloc_new w6 _) (by rw[aD.out];omega) (by rw[aq.out];omega) (gh (aB.out.below ak.out bR) i) (gh (aC.out.below ak.out bR) i);rw[<- al.out]at q;exact q
      have aM:¬ (60:Int)<(D.length:Int):=by have:=aA.out;omega
      have b4:=a9.size;clear ac b6 a9 A Y Z J bT;go_upto_region 12 with fail
      go_cut [8] from 55 to 69 (fun v8 wx=>Rws wx w.heap.size v8 D/\Below w6.heap.size w6 wx)
      case first =>
       go_region_law (go_simp;go_at_call 86;refine (ay.out _ (by rfl)).mono ?_;rintro e w7 ⟨k,rfl,r7,n⟩)
       all_goals
        have q8:Below (w6.alloc (.cells #[.slice (some ⟨g,0,none⟩) p j,.slice F H G] 32)).heap.size (w6.alloc (.cells #[.slice (some ⟨g,0,none⟩) p j,.slice F H G] 32)) w7:=⟨n.os,n.tape,n.output,n.size,n.block⟩;have s:Rws w7 (w6.heap.size+1) k D:=by have q:Rws w7 (w6.alloc (.cells #[.slice (some ⟨g,0,none⟩) p j,.slice F H G] 32)).heap.size k D:=r7;rw[World.size_alloc]at q;exact q
        have hK:Rws w7 w.heap.size k D/\Below w6.heap.size w6 w7:=⟨cz s (by omega),ak.out.trans (q8.mono ak.out.size)⟩;clear r7 n q8 s;go_simp;go_wp2_with fail;go_meet
        case rel=>exact hK
      case rest =>
       obtain⟨s,b8⟩:=hcut;obtain⟨a8,c8,a7⟩:=bz s;subst a7;have au:=hZ s;have aj:=hZ (t.out.trans ((ai.out.trans (b8.mono ai.out.size)).mono t.out.size));clear s b8 M N O Q S T U V X I ay aB aC ax;go_wp2;go_ret2;exact⟨.inl ⟨ao.out,_,rfl,by rw[ab.out];exact au.out⟩,aj.out⟩
   .have x:=Im (l:=l) ae hput
    have aa:kn7 o=1:=by unfold kn7;rw[hput];rfl
    have a6:Cy R o=⟨key,o.text,o.val⟩:=by unfold Cy;rw[a4.out]
    have a0:apR R l o=gz l ⟨key,o.text,o.val⟩:=by unfold apR;rw[hput,a6];rfl
    rw[a6]at x;rw[aa]at A L K ⊢;have ab:Hid (apR R l o=gz l ⟨key,o.text,o.val⟩):=a0;have WR:=fun (u:World) (i:Below W.heap.size W u)=>Pw ⟨key,o.text,o.val⟩ (HL.out.below i) (by omega) am.out
    have aL:Hid ((gz l ⟨key,o.text,o.val⟩).length<=l.length+1):=Nk am.out;obtain⟨D,HD⟩:∃ D,Hid (gz l ⟨key,o.text,o.val⟩=D):=⟨_,rfl⟩
    rw[HD.out]at ab WR x aL;have HC:Hid (apC R l o=if D.length<=60 then 0 else 3):=x;clear x ae aa a0 a6;go_enter func89,ntmps89;go_upto_region 1 with fail
    rw[<- L.out];go_cut [6,7] from 11 to 20 (fun v6 k wx=>v6=.string key/\k=.nilIface/\Below W.heap.size W wx)
    case first =>
     go_region_with (go_at_call 94;refine (f _ (by repeat (first|exact bX|refine Below.drew ?_))).mono ?_;rintro e w5 ⟨rfl,a⟩;have C:Below W.heap.size W w5:=⟨a.os,a.tape,a.output,a.size,a.block⟩;clear a)
     all_goals
      go_simp;go_wp2_with fail;go_meet
      case rel=>exact⟨rfl,rfl,C⟩
    case rest =>
     obtain⟨y,z,a⟩:=hcut;subst y;subst z;have aE:=fun (u:World) (i:Below wc.heap.size wc u)=>WR u (a.trans (i.mono a.size))
     obtain⟨I,M,N,O,Q,S,T,U,V,X⟩:=(HI.out.below a).facts;obtain⟨J,A,Y,Z⟩:=(K.out.below a).facts;have m:=hZ a;have b3:=a.size;obtain⟨w5,ah⟩:∃ w5,w5=wc:=⟨_,rfl⟩
     clear WR a f;go_upto_region 8 with fail
     go_cut [8] from 32 to 42 (fun v8 wx=>Rws wx w.heap.size v8 D/\Below w5.heap.size w5 wx)
     case first =>
      go_region_with (go_at_call 124;refine (aE _ (by repeat (first|exact bX|refine Below.drew ?_))).mono ?_;rintro e w7 ⟨k,rfl,r7,n⟩;have q8:Below w5.heap.size w5 w7:=(by rw[ah];exact⟨n.os,n.tape,n.output,n.size,n.block⟩);have s:Rws w7 w.heap.size k D:=cz r7 (by first|omega|(simp;omega));clear r7 n)
      all_goals
       go_simp;go_wp2_with fail;go_meet
       case rel=>exact⟨s,q8⟩
     case rest =>
      obtain⟨s,b8⟩:=hcut;rw[ah]at b8;obtain⟨a8,c8,a7⟩:=bz s;subst a7;have au:Hid (Rws _ w.heap.size (.slice a8 D.length c8) D):=s;have av:=m.out.trans (b8.mono m.out.size);have aj:Hid (Below w.heap.size w _):=t.out.trans (av.mono t.out.size);have hf:=(HV.out.below av).full;have aP:=ag hf;clear s b8 av M N O Q S T U V X I A Y Z J aE;by_cases hD:D.length<=60
      .have aN:¬ (60:Int)<(D.length:Int):=by omega
       have ao:Hid (apC R l o=0):=by show _=_;rw[HC.out,if_pos hD]
       clear HC hD;go_wp2;go_ret2;exact⟨.inl ⟨ao.out,_,rfl,by rw[ab.out];exact au.out⟩,aj.out⟩
      .have aN:(60:Int)<(D.length:Int):=by omega
       have aJ:Hid (apC R l o=3):=by show _=_;rw[HC.out,if_neg hD]
       clear HC hD;go_wp2;go_quiet (fail)
       go_wp2;go_ret2;exact⟨.inr (.inr (.inl ⟨aJ.out,rfl⟩)),po aj.out _⟩
  .have ap:Hid (apC R l o=2):=rz (by rw[decide_eq_false af,Bool.and_false])
   have aV:(60:Int)<(o.val.size:Int):=by omega
   generalize kn7 o=kd at *;go_enter func89,ntmps89;go_upto_region 1 with fail
   rw[<- L.out];go_cut [6,7] from 11 to 20 (fun v6 k wx=>v6=.string key/\k=.nilIface/\Below W.heap.size W wx)
   case first =>
    go_region_with (go_at_call 94;refine (f _ (by repeat (first|exact bX|refine Below.drew ?_))).mono ?_;rintro e w5 ⟨rfl,a⟩;have C:Below W.heap.size W w5:=⟨a.os,a.tape,a.output,a.size,a.block⟩;clear a)
    all_goals
     go_simp;go_wp2_with fail;go_meet
     case rel=>exact⟨rfl,rfl,C⟩
   case rest =>
    obtain⟨y,z,a⟩:=hcut;subst y;subst z;obtain⟨J,A,Y,Z⟩:=(K.out.below a).facts;have hf:=(HV.out.below a).long;have aP:=ag hf;have m:=hZ (t.out.trans (a.mono t.out.size));clear a f;go_wp2;go_quiet (fail)
    go_wp2;go_ret2;exact⟨.inr (.inl ⟨ap.out,rfl⟩),po m.out _⟩
 .have ad:∀ u:World,Below W.heap.size W u->Calls prog 94 #[.agg #[.slice va R.es.length vc,.bool R.sh,.int .i64 R.lv],.string o.text] u fun e w'=>e=.returned (.tuple #[.string ⟨#[]⟩,.iface 298 (.pointer (some pl))])/\Below u.heap.size u w':=fun u i=>by
   have q:=f u i;rw[if_neg a1]at q;exact q
  clear f;have f:=ad;clear ad;have ap:Hid (apC R l o=2):=rz (by rw[show gn R o.text=false by simpa using a1];rfl);generalize kn7 o=kd at *;go_enter func89,ntmps89;go_upto_region 1 with fail
  rw[<- L.out];go_cut [6,7] from 11 to 20 (fun v6 k wx=>v6=.string ⟨#[]⟩/\k=.iface 298 (.pointer (some pl))/\Below W.heap.size W wx)
  case first =>
   go_region_with (go_at_call 94;refine (f _ (by repeat (first|exact bX|refine Below.drew ?_))).mono ?_;rintro e w5 ⟨rfl,a⟩;have C:Below W.heap.size W w5:=⟨a.os,a.tape,a.output,a.size,a.block⟩;clear a)
   all_goals
    go_simp;go_wp2_with fail;go_meet
    case rel=>exact⟨rfl,rfl,C⟩
  case rest =>
   obtain⟨y,z,a⟩:=hcut;subst y;subst z;have m:=hZ (t.out.trans (a.mono t.out.size));clear a f;go_wp2;go_ret2;exact⟨.inr (.inl ⟨ap.out,rfl⟩),m.out⟩
theorem V0 {w:World} {g l0 cap p:Nat} {l:List Rw}(f:l0=l.length) (k:p<=l0) (j:l0<=cap) (i:dd w (some ⟨g,0,none⟩) l) :
  ∃ (c:Option Addr) (e c2:Nat),(∀ u,Below w.heap.size w u->SlV u (.slice c e c2) (l.drop p))/\∀ u:World,(Instr.slice 32 (.slice (some ⟨g,0,none⟩) l0 cap) (some (.int .i64 (p:Int))) none none).run prog u=.ok (.slice c e c2) u:=by
 subst f;have b:(l.drop p).length=l.length-p:=List.length_drop;by_cases a:cap=p
 .refine⟨some ⟨g,0,none⟩,0,0,fun u _=>⟨_,_,by rw[b,show l.length-p=0 by omega],.inl (List.drop_eq_nil_of_le (by omega))⟩,fun u=>?_⟩
  have:=tf (P:=prog) u 32 37 3 underlying32 Bi (some ⟨g,0,none⟩) l.length cap p (by omega);rw[this,if_pos a,show l.length-p=0 by omega,show cap-p=0 by omega]
 .refine⟨some ⟨g,p*3,none⟩,l.length-p,cap-p,fun u hu=>⟨_,_,by rw[b],by have d:=(i.below hu bR).drop p;rw[Nat.zero_add]at d;exact d⟩,fun u=>?_⟩
  have:=tf (P:=prog) u 32 37 3 underlying32 Bi (some ⟨g,0,none⟩) l.length cap p (by omega);rw[this,if_neg a];by_cases h:p=0
  .subst h;simp[Addr.add]
  .simp[Addr.add]
   try omega
theorem Yl {w:World} {B:Nat} {v:Value} {l:List Rw} {p:Nat}(b:Rws w B v l) (z:p<l.length) (S:l.length<=1048576) :
  Calls prog 117 #[v,.int .i64 (p:Int)] w fun e w'=>∃ v',e=.returned v'/\Rws w' w.heap.size v' (l.take p++l.drop (p+1))/\Below w.heap.size w w':=by
 obtain⟨g,cap,rfl,J,K⟩:∃ g cap,v=.slice (some ⟨g,0,none⟩) l.length cap/\l.length<=cap/\cap<=maxLen:=by
  rcases b.form with ⟨_,L⟩|h
  .rw[L]at z;simp at z
  .exact h
 obtain⟨a,s⟩:∃ a,a=p+1:=⟨_,rfl⟩
 rw[<- s];have O:(p:Int)+1=(a:Int):=by omega
 have P:IntKind.i64.wrap (a:Int)=(a:Int):=by unfold maxLen at K;rw[IntKind.wrap_i64];omega
 have Q:(p:Int)<=(cap:Int):=by omega
 have d:Hid ((l.take p).length=p):=by show _=_;rw[List.length_take];omega
 have E:Hid ((l.drop a).length=l.length-a):=List.length_drop;obtain⟨i,o,n,t,R⟩:=V0 (p:=a) (cap:=cap) rfl (by omega) J (ew b);have H:Hid (∀ u,Below w.heap.size w u->SlV u (.slice i o n) (l.drop a)):=t;have m:Below w.heap.size w (w.alloc (.cells #[] 37)):=bY _;have f:=hZ m;have G:Hid (SlV (w.alloc (.cells #[] 37)) (.slice (some ⟨g,0,none⟩) p cap) (l.take p)):=⟨_,_,by rw[d.out],(ew (b.below m)).take p⟩;have r:Hid (Rws (w.alloc (.cells #[] 37)) w.heap.size (.slice (some ⟨w.heap.size,0,none⟩) 0 0) []):=sn w _ _ rfl bR;clear b t m s;go_enter func117,ntmps117
 go_wp2_with (at_builtin;refine ef rfl _ _ rfl w.heap.size (.slice (some ⟨w.heap.size,0,none⟩) 0 0) (.slice (some ⟨g,0,none⟩) p cap) [] (l.take p) rfl rfl r.out G.out (by rw[d.out];simp;omega) f.out.size ?_)
 intro M w1 A x;have k:Below w.heap.size w w1:=Below.grown f.out x f.out.size (fun j hj=>(World.ownsRow.lt r.out j hj).1);have q:=hZ A;have c:=hZ k;have I:Hid (SlV w1 (.slice i o n) (l.drop a)):=H.out w1 k;clear A x k;go_wp2_with (at_builtin;refine ef rfl _ _ rfl w.heap.size M (.slice i o n) (l.take p) (l.drop a) rfl rfl q.out I.out (by rw[d.out,E.out];omega) c.out.size ?_)
 intro T N C y;have D:Hid (Below w.heap.size w N):=Below.grown c.out y c.out.size (fun j hj=>(World.ownsRow.lt q.out j hj).1);have F:=hZ C;clear C y;go_wp2;go_ret;exact⟨_,rfl,F.out,D.out⟩
def m6 (u:World) (p:Nat) (x:Rw):Prop:=u.heap[p]? = some (.cells #[.string x.key,.string x.text,.string x.val] 37)
theorem m6.below {u u':World} {p:Nat} {x:Rw}(h:m6 u p x) (a:Below u.heap.size u u'):m6 u' p x:=(a.block p (Array.getElem?_eq_some_iff.1 h).1).trans h
theorem m6.facts {u:World} {p:Nat} {x:Rw}(h:m6 u p x):p<u.heap.size/\u.cell? ⟨p,0,none⟩=some (.string x.key)/\u.cell? ⟨p,1,none⟩=some (.string x.text)/\u.cell? ⟨p,2,none⟩=some (.string x.val) :=
 ⟨(Array.getElem?_eq_some_iff.1 h).1,cell_of_row _ _ 0 _ _ _ h,cell_of_row _ _ 1 _ _ _ h,cell_of_row _ _ 2 _ _ _ h⟩
theorem ae8 {w:World} {B:Nat} {v:Value} {l:List Rw}(x:Rw) (I:Rws w B v l) (hl:l.length<=1000000) (N:lm l) :
  Calls prog 116 #[v,.agg #[.string x.key,.string x.text,.string x.val]] w fun e w'=>∃ v',e=.returned v'/\Rws w' w.heap.size v' (gz l x)/\Below w.heap.size w w':=by
 obtain⟨W,V⟩:∃ W,W=w.alloc (.cells #[.string x.key,.string x.text,.string x.val] 37):=⟨_,rfl⟩
 have hb:Below w.heap.size w W:=by rw[V];exact bY _
 have U:=hZ hb;have O:Hid (m6 W w.heap.size x):=by show _=_;rw[V];exact heap_alloc_new w _
 have HW:Hid (W=w.alloc (.cells #[.string x.key,.string x.text,.string x.val] 37)):=V;obtain⟨T,X,Y,Z⟩:=O.out.facts;have ae:=(n6 x.key N).1;have S:Hid (gz l x=l.take (az l x.key)++([x]++l.drop (if d9 l x.key=true then az l x.key+1 else az l x.key))):=rfl;rcases I.form with ⟨rfl,rfl⟩|⟨g,cap,rfl,ai,aq⟩
 .have m:=Dl (w:=W) (a:=none) (c:=0) (l:=[]) x.key (.inl rfl) (by simp) N
  have aj:az [] x.key=0:=by simpa using ae
  have al:d9 [] x.key=false:=rfl;rw[aj,al]at m;have a1:Hid (gz [] x=(([]:List Rw)++[x])++[]):=by show _=_;rw[S.out];simp
  have i:Hid (([]:List Rw).length=0):=rfl;have a7:Hid (([]:List Rw).length=0):=rfl;have a8:Hid (∀ u,Below w.heap.size w u->SlV u (.slice none 0 0) ([]:List Rw)):=fun u _=>⟨none,0,rfl,.inl rfl⟩
  clear I hb V N ae S aj al;go_enter func116,ntmps116;go_wp2_with fail;rw[<- HW.out];go_wp2_with fail;refine m.mono ?_;clear m;rintro e b ⟨rfl,f⟩;obtain⟨T,X,Y,Z⟩:=(m6.below O.out f).facts;have ag:=hZ f;have a0:=hZ (m6.below O.out f);have d:=hZ (U.out.trans (f.mono U.out.size));have k:Hid (Below b.heap.size b (b.alloc (.cells #[] 37))):=bY _;have s:Hid (Rws (b.alloc (.cells #[] 37)) b.heap.size (.slice (some ⟨b.heap.size,0,none⟩) 0 0) []):=sn b _ _ rfl bR;have C:Hid (SlV (b.alloc (.cells #[] 37)) (.slice none 0 0) []):=⟨none,0,rfl,.inl rfl⟩;clear f
  go_wp2_with (at_builtin;refine ef rfl _ _ rfl b.heap.size (.slice (some ⟨b.heap.size,0,none⟩) 0 0) (.slice none 0 0) [] [] rfl rfl s.out C.out (by first|(rw[i.out];simp;omega)|simp) k.out.size ?_)
  intro K w3 J F;have h:Below b.heap.size b w3:=Below.grown k.out F k.out.size (fun j hj=>(World.ownsRow.lt s.out j hj).1);have ah:=hZ h;have r:Hid (Rws (w3.alloc (.cells #[.string x.key,.string x.text,.string x.val] 37)) b.heap.size K []):=Rws.below J (bY _);have D:Hid (SlV (w3.alloc (.cells #[.string x.key,.string x.text,.string x.val] 37)) (.slice (some ⟨w3.heap.size,0,none⟩) 1 1) [x]):=(gg w3 _ w3.heap.size x rfl bR).slV;have a4:Hid (Below w3.heap.size w3 (w3.alloc (.cells #[.string x.key,.string x.text,.string x.val] 37))):=bY _;have o:=hZ (h.trans (a4.out.mono h.size));obtain⟨a3,ab,ac,ad⟩:=(m6.below a0.out h).facts
  clear J F h X Y Z T s C;go_wp2_with (at_builtin;refine ef rfl _ _ rfl b.heap.size K (.slice (some ⟨w3.heap.size,0,none⟩) 1 1) [] [x] rfl rfl r.out D.out (by first|(rw[i.out];simp;omega)|simp) o.out.size ?_)
  intro L w4 y G;have t:Below b.heap.size b w4:=Below.grown o.out G o.out.size (fun j hj=>(World.ownsRow.lt r.out j hj).1);have q:=hZ t;have A:Hid (Rws w4 b.heap.size L (([]:List Rw)++[x])):=(by first|exact y|simpa using y);have a9:Hid (SlV w4 (.slice none 0 0) []):=a8.out w4 (d.out.trans (t.mono d.out.size));clear y G t ab ac ad a3 r D;go_wp2_with (at_builtin;refine ef rfl _ _ rfl b.heap.size L (.slice none 0 0) (([]:List Rw)++[x]) [] rfl rfl A.out a9.out (by first|(rw[List.length_append,i.out,a7.out];simp;omega)|simp) q.out.size ?_)
  intro v5 M z H;have a5:Hid (Below w.heap.size w M):=d.out.trans ((Below.grown q.out H q.out.size (fun j hj=>(World.ownsRow.lt A.out j hj).1)).mono d.out.size);have a6:Hid (Rws M w.heap.size v5 (gz [] x)):=by show Rws _ _ _ _;rw[a1.out];exact cz (by first|exact z|simpa using z) d.out.size
  clear z H;go_wp2;go_ret;exact⟨_,rfl,a6.out,a5.out⟩
 .have m:=Dl (w:=W) (c:=cap) x.key (ew (I.below hb)) (by omega) N
  have HR:=hZ I
  cases hth:d9 l x.key
  .rw[hth]at m
   have E:gz l x=(l.take (az l x.key)++[x])++l.drop (az l x.key):=by rw[S.out,hth,if_neg (by simp),List.append_assoc]
   generalize az l x.key=p at m E ae;have a1:Hid (gz l x=(l.take p++[x])++l.drop p):=E;have ap:(p:Int)<=(cap:Int):=by omega
   have i:Hid ((l.take p).length=p):=by show _=_;rw[List.length_take];omega
   have a7:Hid ((l.drop p).length=l.length-p):=List.length_drop;obtain⟨P,R,Q,aa,af⟩:=V0 (p:=p) (cap:=cap) rfl (by omega) ai (ew I);have a8:Hid (∀ u,Below w.heap.size w u->SlV u (.slice P R Q) (l.drop p)):=aa;clear I hb V N S hth E aa;go_enter func116,ntmps116;go_wp2_with fail;rw[<- HW.out];go_wp2_with fail;refine m.mono ?_;clear m;rintro e b ⟨rfl,f⟩;obtain⟨T,X,Y,Z⟩:=(m6.below O.out f).facts;have ag:=hZ f;have a0:=hZ (m6.below O.out f);have d:=hZ (U.out.trans (f.mono U.out.size));have k:Hid (Below b.heap.size b (b.alloc (.cells #[] 37))):=bY _;have s:Hid (Rws (b.alloc (.cells #[] 37)) b.heap.size (.slice (some ⟨b.heap.size,0,none⟩) 0 0) []):=sn b _ _ rfl bR
   have C:Hid (SlV (b.alloc (.cells #[] 37)) (.slice (some ⟨g,0,none⟩) p cap) (l.take p)):=⟨_,_,by rw[i.out],(ew (HR.out.below (d.out.trans (k.out.mono d.out.size)))).take p⟩;clear f;go_wp2_with (at_builtin;refine ef rfl _ _ rfl b.heap.size (.slice (some ⟨b.heap.size,0,none⟩) 0 0) (.slice (some ⟨g,0,none⟩) p cap) [] (l.take p) rfl rfl s.out C.out (by first|(rw[i.out];simp;omega)|simp) k.out.size ?_)
   intro K w3 J F;have h:Below b.heap.size b w3:=Below.grown k.out F k.out.size (fun j hj=>(World.ownsRow.lt s.out j hj).1);have ah:=hZ h;have r:Hid (Rws (w3.alloc (.cells #[.string x.key,.string x.text,.string x.val] 37)) b.heap.size K (l.take p)):=Rws.below J (bY _);have D:Hid (SlV (w3.alloc (.cells #[.string x.key,.string x.text,.string x.val] 37)) (.slice (some ⟨w3.heap.size,0,none⟩) 1 1) [x]):=(gg w3 _ w3.heap.size x rfl bR).slV;have a4:Hid (Below w3.heap.size w3 (w3.alloc (.cells #[.string x.key,.string x.text,.string x.val] 37))):=bY _;have o:=hZ (h.trans (a4.out.mono h.size));obtain⟨a3,ab,ac,ad⟩:=(m6.below a0.out h).facts
   clear J F h X Y Z T s C;go_wp2_with (at_builtin;refine ef rfl _ _ rfl b.heap.size K (.slice (some ⟨w3.heap.size,0,none⟩) 1 1) (l.take p) [x] rfl rfl r.out D.out (by first|(rw[i.out];simp;omega)|simp) o.out.size ?_)
   intro L w4 y G;have t:Below b.heap.size b w4:=Below.grown o.out G o.out.size (fun j hj=>(World.ownsRow.lt r.out j hj).1);have q:=hZ t;have A:Hid (Rws w4 b.heap.size L ((l.take p)++[x])):=(by first|exact y|simpa using y);have a9:Hid (SlV w4 (.slice P R Q) (l.drop p)):=a8.out w4 (d.out.trans (t.mono d.out.size));clear y G t ab ac ad a3 r D;go_wp2_with (at_builtin;refine ef rfl _ _ rfl b.heap.size L (.slice P R Q) ((l.take p)++[x]) (l.drop p) rfl rfl A.out a9.out (by first|(rw[List.length_append,i.out,a7.out];simp;omega)|simp) q.out.size ?_)
   intro v5 M z H;have a5:Hid (Below w.heap.size w M):=d.out.trans ((Below.grown q.out H q.out.size (fun j hj=>(World.ownsRow.lt A.out j hj).1)).mono d.out.size);have a6:Hid (Rws M w.heap.size v5 (gz l x)):=by show Rws _ _ _ _;rw[a1.out];exact cz (by first|exact z|simpa using z) d.out.size
   clear z H;go_wp2;go_ret;exact⟨_,rfl,a6.out,a5.out⟩
  .rw[hth]at m
   have am:=(py N hth).2;have E:gz l x=(l.take (az l x.key)++[x])++l.drop (az l x.key+1):=by rw[S.out,hth,if_pos rfl,List.append_assoc]
   generalize az l x.key=p at m E ae am;obtain⟨n,ak⟩:∃ n,n=p+1:=⟨_,rfl⟩
   rw[<- ak]at E;have an:(p:Int)+1=(n:Int):=by omega
   have ao:IntKind.i64.wrap (n:Int)=(n:Int):=by rw[IntKind.wrap_i64];omega
   have a1:Hid (gz l x=(l.take p++[x])++l.drop n):=E;have ap:(p:Int)<=(cap:Int):=by omega
   have i:Hid ((l.take p).length=p):=by show _=_;rw[List.length_take];omega
   have a7:Hid ((l.drop n).length=l.length-n):=List.length_drop;obtain⟨P,R,Q,aa,af⟩:=V0 (p:=n) (cap:=cap) rfl (by omega) ai (ew I);have a8:Hid (∀ u,Below w.heap.size w u->SlV u (.slice P R Q) (l.drop n)):=aa;clear I hb V N S hth E aa ak;go_enter func116,ntmps116;go_wp2_with fail;rw[<- HW.out];go_wp2_with fail;refine m.mono ?_;clear m;rintro e b ⟨rfl,f⟩;obtain⟨T,X,Y,Z⟩:=(m6.below O.out f).facts;have ag:=hZ f;have a0:=hZ (m6.below O.out f);have d:=hZ (U.out.trans (f.mono U.out.size));have k:Hid (Below b.heap.size b (b.alloc (.cells #[] 37))):=bY _;have s:Hid (Rws (b.alloc (.cells #[] 37)) b.heap.size (.slice (some ⟨b.heap.size,0,none⟩) 0 0) []):=sn b _ _ rfl bR
   have C:Hid (SlV (b.alloc (.cells #[] 37)) (.slice (some ⟨g,0,none⟩) p cap) (l.take p)):=⟨_,_,by rw[i.out],(ew (HR.out.below (d.out.trans (k.out.mono d.out.size)))).take p⟩;clear f;go_wp2_with (at_builtin;refine ef rfl _ _ rfl b.heap.size (.slice (some ⟨b.heap.size,0,none⟩) 0 0) (.slice (some ⟨g,0,none⟩) p cap) [] (l.take p) rfl rfl s.out C.out (by first|(rw[i.out];simp;omega)|simp) k.out.size ?_)
   intro K w3 J F;have h:Below b.heap.size b w3:=Below.grown k.out F k.out.size (fun j hj=>(World.ownsRow.lt s.out j hj).1);have ah:=hZ h;have r:Hid (Rws (w3.alloc (.cells #[.string x.key,.string x.text,.string x.val] 37)) b.heap.size K (l.take p)):=Rws.below J (bY _);have D:Hid (SlV (w3.alloc (.cells #[.string x.key,.string x.text,.string x.val] 37)) (.slice (some ⟨w3.heap.size,0,none⟩) 1 1) [x]):=(gg w3 _ w3.heap.size x rfl bR).slV;have a4:Hid (Below w3.heap.size w3 (w3.alloc (.cells #[.string x.key,.string x.text,.string x.val] 37))):=bY _;have o:=hZ (h.trans (a4.out.mono h.size));obtain⟨a3,ab,ac,ad⟩:=(m6.below a0.out h).facts
   clear J F h X Y Z T s C;go_wp2_with (at_builtin;refine ef rfl _ _ rfl b.heap.size K (.slice (some ⟨w3.heap.size,0,none⟩) 1 1) (l.take p) [x] rfl rfl r.out D.out (by first|(rw[i.out];simp;omega)|simp) o.out.size ?_)
   intro L w4 y G;have t:Below b.heap.size b w4:=Below.grown o.out G o.out.size (fun j hj=>(World.ownsRow.lt r.out j hj).1);have q:=hZ t;have A:Hid (Rws w4 b.heap.size L ((l.take p)++[x])):=(by first|exact y|simpa using y);have a9:Hid (SlV w4 (.slice P R Q) (l.drop n)):=a8.out w4 (d.out.trans (t.mono d.out.size));clear y G t ab ac ad a3 r D;go_wp2_with (at_builtin;refine ef rfl _ _ rfl b.heap.size L (.slice P R Q) ((l.take p)++[x]) (l.drop n) rfl rfl A.out a9.out (by first|(rw[List.length_append,i.out,a7.out];simp;omega)|simp) q.out.size ?_)
   intro v5 M z H;have a5:Hid (Below w.heap.size w M):=d.out.trans ((Below.grown q.out H q.out.size (fun j hj=>(World.ownsRow.lt A.out j hj).1)).mono d.out.size);have a6:Hid (Rws M w.heap.size v5 (gz l x)):=by show Rws _ _ _ _;rw[a1.out];exact cz (by first|exact z|simpa using z) d.out.size
   clear z H;go_wp2;go_ret;exact⟨_,rfl,a6.out,a5.out⟩
theorem Gn {w:World} {B Bl:Nat} {ve vr:Value} {R:RA} {l:List Rw}(o:Dn) (af:o.text.size<=1048576) (ah:o.val.size<=60) (U:ac w B ve R.es) (ae:ay R.es R.lv=true) (V:Rws w Bl vr l) (a0:lm l) (aj:l.length<=60) :
  Calls prog 79 #[.agg #[ve,.bool R.sh,.int .i64 R.lv],vr,.agg #[.int .i64 (kn7 o),.string o.text,.string o.val]] w fun e w' =>
   ∃ v,e=.returned (.tuple #[v,.bool (decide (apC R l o=0))])/\(apC R l o=0->Rws w' w.heap.size v (apR R l o))/\Below w.heap.size w w':=by
 obtain⟨K,L,rfl⟩:=cu U;obtain⟨ar,cr,ai⟩:=bz V;subst ai;obtain⟨W,G⟩:∃ W,W=(w.alloc (.cells #[.slice K R.es.length L,.bool R.sh,.int .i64 R.lv] 56)).alloc (.cells #[.int .i64 (kn7 o),.string o.text,.string o.val] 27):=⟨_,rfl⟩
 have J:Below w.heap.size w W:=by rw[G];exact (bY _).alloc (by simp) _
 have n:Hid (Below w.heap.size w W):=J;have z:Hid (gi W (w.heap.size+1) (kn7 o) o.text o.val):=by
  have h:=heap_alloc_new (w.alloc (.cells #[.slice K R.es.length L,.bool R.sh,.int .i64 R.lv] 56)) (.cells #[.int .i64 (kn7 o),.string o.text,.string o.val] 27);rw[World.size_alloc]at h;show _=_
  rw[G];exact h
 have HU:Hid (jf W w.heap.size (.slice K R.es.length L) R.sh R.lv):=by
  show _=_
  rw[G,Below.heap_alloc _ _ _ (by simp)];exact heap_alloc_new w _
 have S:Hid (Rws W Bl (.slice ar l.length cr) l):=V.below J;have A:Hid (W=(w.alloc (.cells #[.slice K R.es.length L,.bool R.sh,.int .i64 R.lv] 56)).alloc (.cells #[.int .i64 (kn7 o),.string o.text,.string o.val] 27)):=G;have d:=Cj o.text af (U.below J) ae;obtain⟨I,u0,u1,u2⟩:=HU.out.facts;obtain⟨r,j,s,t⟩:=z.out.facts;have H:Hid (lm l):=a0;clear U V a0 J G
 cases hfit:gn R o.text
 .have b:Hid (apC R l o=2):=rz (by rw[hfit];rfl)
  rw[hfit]at d;generalize (if o.text.size<=60 then bh R o.text else ⟨#[]⟩)=key at d;clear hfit;generalize kn7 o=kd at *;go_enter func79,ntmps79;go_wp2_with fail;rw[<- A.out];go_wp2_with fail;refine d.mono ?_;rintro e i ⟨rfl,a⟩;have f:Hid (Below w.heap.size w i):=n.out.trans (a.mono n.out.size);clear d a u0 u1 u2 I j s t r;go_wp2;go_ret2;exact⟨_,by (rw[b.out];try rfl),fun h=>absurd h (by rw[b.out];decide),f.out⟩
 .rw[if_pos (vk hfit).1,hfit]at d
  have F:(gn R o.text && decide (o.val.size<=60))=true:=by rw[hfit,decide_eq_true ah];rfl
  obtain⟨key,O⟩:∃ key,key=bh R o.text:=⟨_,rfl⟩
  rw[<- O]at d;have M:Hid (key=bh R o.text):=O;clear O hfit
  cases hput:o.put
  .have g:=Fg (l:=l) F hput
   have y:kn7 o=2:=by unfold kn7;rw[hput];rfl
   have x:apR R l o=qz l key:=by unfold apR;rw[hput,M.out];rfl
   rw[<- M.out]at g;rw[y]at j A z ⊢;have m:=fun (u:World) (X:Below W.heap.size W u)=>Dl (c:=cr) key (ew (S.out.below X)) (by omega) H.out
   cases hth:d9 l key
   .have b:Hid (apC R l o=4):=by show _=_;rw[g,hth];rfl
    rw[hth]at m;generalize az l key=p at m;clear g F y x hth;go_enter func79,ntmps79;go_wp2_with fail;rw[<- A.out];go_wp2_with fail;refine d.mono ?_;rintro e i ⟨rfl,a⟩;have E:=m i a;obtain⟨r,j,s,t⟩:=(z.out.below a).facts;have f:Hid (Below w.heap.size w i):=n.out.trans (a.mono n.out.size);clear d a u0 u1 u2 I m;go_wp2_with fail;refine E.mono ?_;rintro e C ⟨rfl,q⟩;have k:Hid (Below w.heap.size w C):=f.out.trans (q.mono f.out.size);clear E q j s t r;go_wp2;go_ret2;exact⟨_,by (rw[b.out];try rfl),fun h=>absurd h (by rw[b.out];decide),k.out⟩
   .have b:Hid (apC R l o=0):=by show _=_;rw[g,hth];rfl
    have a7:=(py H.out hth).2;rw[hth]at m;have a3:Hid (apR R l o=l.take (az l key)++l.drop (az l key+1)):=x;generalize az l key=p at m a7 a3;clear g F y x hth;go_enter func79,ntmps79;go_wp2_with fail;rw[<- A.out];go_wp2_with fail;refine d.mono ?_;rintro e i ⟨rfl,a⟩;have E:=m i a;obtain⟨r,j,s,t⟩:=(z.out.below a).facts;have f:Hid (Below W.heap.size W i):=a;clear d a u0 u1 u2 I m;go_wp2_with fail;refine E.mono ?_;rintro e C ⟨rfl,q⟩;have N:=f.out.trans (q.mono f.out.size);have k:Hid (Below w.heap.size w C):=n.out.trans (N.mono n.out.size);have Q:=Yl (S.out.below N) a7 (by omega);rw[<- a3.out]at Q;clear E q j s t r N;go_wp2_with fail;refine Q.mono ?_;rintro e w3 ⟨v3,rfl,r3,b3⟩;have a8:Hid (Below w.heap.size w w3):=k.out.trans (b3.mono k.out.size)
    have ab:Hid (Rws w3 w.heap.size v3 (apR R l o)):=cz r3 k.out.size;clear Q r3 b3;go_wp2;go_ret2;exact⟨_,by (rw[b.out];try rfl),fun _=>ab.out,a8.out⟩
  .have g:=Im (l:=l) F hput
   have y:kn7 o=1:=by unfold kn7;rw[hput];rfl
   have P:Cy R o=⟨key,o.text,o.val⟩:=by unfold Cy;rw[M.out]
   have x:apR R l o=gz l ⟨key,o.text,o.val⟩:=by unfold apR;rw[hput,P];rfl
   rw[P]at g;rw[y]at j A z ⊢;have T:=fun (u:World) (X:Below W.heap.size W u)=>ae8 ⟨key,o.text,o.val⟩ (S.out.below X) (by omega) H.out
   have a4:Hid ((gz l ⟨key,o.text,o.val⟩).length<=l.length+1):=Nk H.out;have Z:Hid (apR R l o=gz l ⟨key,o.text,o.val⟩):=x;obtain⟨D,HD⟩:∃ D,Hid (gz l ⟨key,o.text,o.val⟩=D):=⟨_,rfl⟩
   rw[HD.out]at Z T g a4;have b:Hid (apC R l o=if D.length<=60 then 0 else 3):=g;clear g F y x P;go_enter func79,ntmps79;go_wp2_with fail;rw[<- A.out];go_wp2_with fail;refine d.mono ?_;rintro e i ⟨rfl,a⟩;have a5:=T i a;obtain⟨r,j,s,t⟩:=(z.out.below a).facts;have f:Hid (Below w.heap.size w i):=n.out.trans (a.mono n.out.size);clear d a u0 u1 u2 I T;go_wp2_with fail;refine a5.mono ?_;rintro e C ⟨v2,rfl,Y,q⟩;obtain⟨a2,c2,ag⟩:=bz Y;subst ag;have k:Hid (Below w.heap.size w C):=f.out.trans (q.mono f.out.size);have aa:Hid (Rws C w.heap.size (.slice a2 D.length c2) (apR R l o)):=by show Rws _ _ _ _;rw[Z.out];exact cz Y f.out.size
   have ak:=a4.out;clear a5 Y q j s t r;by_cases hD:D.length<=60
   .have a6:(D.length:Int)<=60:=by omega
    have a9:Hid (apC R l o=0):=by show _=_;rw[b.out,if_pos hD]
    clear b;go_wp2;go_ret2;exact⟨_,by (rw[a9.out];try rfl),fun _=>aa.out,k.out⟩
   .have a6:¬ (D.length:Int)<=60:=by omega
    have a1:Hid (apC R l o=3):=by show _=_;rw[b.out,if_neg hD]
    have ad:decide ((D.length:Int)<=60)=false:=decide_eq_false a6;clear b;go_wp2;go_ret2;exact⟨.slice a2 D.length c2,by (rw[a1.out];first|rfl|(rw[show decide ((3:Int)=0)=decide ((D.length:Int)<=60) by rw[ad];rfl];rfl)),fun h=>absurd h (by rw[a1.out];decide),k.out⟩
theorem Wn {s:ByteArray} {o:Dn} {n:Nat}(h:io s=some (o,n)):bq s=some (o,n)/\o.text.size<=60/\o.val.size<=60:=by
 unfold io at h
 cases hr:bq s with
 | none=>rw[hr]at h;cases h
 | some p =>
  obtain⟨b,c⟩:=p;rw[hr]at h;have a:(if b.text.size<=60/\b.val.size<=60 then some (b,c) else none)=some (o,n):=h;split at a
  .rename_i hl
   cases a
   exact⟨rfl,hl⟩
  .cases a
theorem a32 {R:RA} {l:List Rw} {s:ByteArray}(h0:s.size≠0) (h:io s=none):pj R l s=none:=by
 cases hr:bq s with
 | none=>exact a31 h0 hr
 | some p =>
  obtain⟨o,n⟩:=p;refine Ot hr ?_;have hn:¬ (o.text.size<=60/\o.val.size<=60):=fun c=>by rw[Cx hr c]at h;cases h
  have a:(gn R o.text && decide (o.val.size<=60))=false:=by
   cases hq:(gn R o.text && decide (o.val.size<=60))
   .rfl
   .rw[Bool.and_eq_true,decide_eq_true_eq]at hq
    exact absurd ⟨(vk hq.1).1,hq.2⟩ hn
  rw[rz a];decide
theorem Wv {R:RA} {l:List Rw}(h:im R l):dm l=true :=
 oh.2 ⟨h.len,fun x hx=>by
  have:=h.sz x hx;unfold sz1;rw[decide_eq_true (by omega),decide_eq_true (by omega),decide_eq_true (by omega)];rfl,wo h.rise⟩
structure Ds7 where
 r:ByteArray
 ss:List ByteArray
 log:ByteArray
 syn:Int
def zD7:Ds7:=⟨⟨#[]⟩,[],⟨#[]⟩,0⟩
def dn7 (k:Int) (x v:ByteArray):Dn:=⟨decide (k=1),x,v⟩
def oo (o:Dn):ByteArray :=
 if o.put=true then ⟨#[112]⟩++⟨#[UInt8.ofNat o.text.size,UInt8.ofNat o.val.size]⟩++o.text++o.val++⟨#[46]⟩ else ⟨#[100]⟩++⟨#[UInt8.ofNat o.text.size]⟩++o.text++⟨#[46]⟩
theorem a25 (o:Dn):(oo o).size=if o.put=true then 4+o.text.size+o.val.size else 3+o.text.size:=by
 unfold oo;split
 .simp only[ByteArray.size_append]
  show 1+2+o.text.size+o.val.size+1=_
  omega
 .simp only[ByteArray.size_append]
  show 1+1+o.text.size+1=_
  omega
def Am (k:Int) (x v:ByteArray):Bool:=decide (1<=k/\k<=4/\((k=3\/k=4)->x.size=0)/\(k≠1->v.size=0))
def ov (d:Ds7):Bool:=decide (0<=d.syn/\d.syn<=(d.log.size:Int))
def fu (d:Ds7):Option (List Rw):=dx (aa d.r) d.ss d.log
def doL (d:Ds7) (l:List Rw) (k:Int) (x v:ByteArray):Int × Ds7 :=
 if k=3 then (0,{ d with syn:=(d.log.size:Int) })
 else if k=4 then (match pu l with
  | some pp=>(0,{ d with ss:=pp,log:=⟨#[]⟩,syn:=0 })
  | none=>(3,d))
 else if apC (aa d.r) l (dn7 k x v)=0 then (if d.log.size+(oo (dn7 k x v)).size<=6000 then (0,{ d with log:=d.log++oo (dn7 k x v) }) else (3,d))
 else (apC (aa d.r) l (dn7 k x v),d)
def do7 (d:Ds7) (k:Int) (x v:ByteArray):Int × Ds7 :=
 match fu d with
 | none=>(1,zD7)
 | some l=>if (ov d && Am k x v)=true then doL d l k x v else (1,zD7)
structure Ok7 (d:Ds7):Prop where
 rules:d.r.size<=1048576
 pages:d.ss.length<=1048576
 page:∀ s ∈ d.ss,s.size<=1048576
 side:q9 d.ss
 log:d.log.size<=1000000
theorem Xb {l:List Rw} {p:List ByteArray}(d:l.length<=60) (e:∀ x ∈ l,x.text.size<=60/\x.val.size<=60) (h:pu l=some p):q9 p:=by
 obtain⟨g,b,c,_⟩:=Ay h;intro f a;rw[b]at a
 cases a
 rw[c];exact⟨d,e⟩
theorem at1 {d:Ds7} {l:List Rw}(h:Ok7 d) (a:im (aa d.r) l) (k:Int) (x v:ByteArray):Ok7 (doL d l k x v).2:=by
 unfold doL;split
 .exact⟨h.rules,h.pages,h.page,h.side,h.log⟩
 split
 .split
  .rename_i pp hp
   obtain⟨_,_,_,_,_,c,b⟩:=Ay hp;exact⟨h.rules,by show pp.length<=_;omega,fun s hs=>by have:=b s hs;omega,Xb a.len (fun x hx=>⟨(a.sz x hx).1,(a.sz x hx).2.1⟩) hp,by show 0<=1000000;omega⟩
  .exact h
 split
 .split
  .rename_i hs
   exact⟨h.rules,h.pages,h.page,h.side,by show (d.log++_).size<=_;rw[ByteArray.size_append];omega⟩
  .exact h
 .exact h
theorem Pb:q9 []:=fun gs h=>by
 have:gs=[]:=by
  unfold ca at h;rw[if_pos (by show 0<=40;omega)]at h;have a:some []=some gs:=h
  cases a
  rfl
 subst this;exact⟨by show 0<=60;omega,fun x hx=>by cases hx⟩
theorem a64:Ok7 zD7:=⟨Nat.zero_le _,Nat.zero_le _,fun s hs=>(by cases hs),Pb,Nat.zero_le _⟩
theorem jz {d:Ds7} {l:List Rw}(h:Ok7 d) (a:fu d=some l):im (aa d.r) l:=W2 h.side a
theorem as9 {d:Ds7}(h:Ok7 d) (k:Int) (x v:ByteArray):Ok7 (do7 d k x v).2:=by
 unfold do7;split
 .exact a64
 .rename_i l ho
  split
  .exact at1 h (jz h ho) k x v
  .exact a64
theorem iw {u:World} {B e size n b t:Nat} {v:Value} {xs:List Value} {cs:Array Value}(h:u.ownsRow B e size v n xs) (a:u.heap[b]? = some (.cells cs t (0,0))) (i:e≠t):v.ownBlock=none\/v.ownBlock≠some b:=by
 rcases h.2 with ⟨rfl,_⟩|⟨g,k,l,rfl,_,j,_⟩
 .exact .inl rfl
 .refine .inr fun c=>?_
  have:g=b:=Option.some.inj c;subst this;rw[j]at a;injection a with d;injection d with _ f _;exact i f
theorem ac.boxT {u u':World} {B b:Nat} {v:Value} {es:List Ent} {cs:Array Value} {t:TypeId}(h:ac u B v es) (c:u.heap[b]? = some (.cells cs t (0,0))) (h1:117≠t) (h2:3≠t) (d:u.grownBy u' (some b)):ac u' B v es:=by
 obtain⟨i,f,q1,q2⟩:=h;refine⟨i,f,World.ownsRow.kept q1 d (iw q1 c h1),fun k e he=>?_⟩;obtain⟨x,g,a⟩:=q2 k e he;exact⟨x,g,World.ownsRow.kept a d (iw a c h2)⟩
theorem dq (w:World) (g k:Nat) (u:Value):w.grownBy (w.setCell ⟨g,k,none⟩ u) (some g) :=
 ⟨rfl,rfl,rfl,by simp,fun i hi hn=>heap_setCell_other _ ⟨g,k,none⟩ i _ (fun e=>hn (by rw[e]))⟩
theorem ny.rows {u:World} {b:Nat} {a:Value} {sh:Bool} {lv:Int} {r:ByteArray} {c:Value} {log:ByteArray} {syn:Int} {vr:Value}(h:ny u b a sh lv r c log syn vr) (vr':Value):ny (u.setCell ⟨b,7,none⟩ vr') b a sh lv r c log syn vr':=by
 have e:=heap_setCell_same u b 7 _ _ vr' h;show _=_
 rw[e];simp
structure Ix7 (w:World) (lo b:Nat) (ve:Value) (R:RA) (r:ByteArray) (vp:Value) (ss:List ByteArray) (log:ByteArray) (syn:Int) (vr:Value) (l:List Rw):Prop where
 box:ny w b ve R.sh R.lv r vp log syn vr
 ents:ac w lo ve R.es
 pages:ak w lo vp ss
 rows:Rws w lo vr l
 low:lo<=b
theorem Ix7.below {w w':World} {c b:Nat} {d:Value} {R:RA} {r:ByteArray} {e:Value} {ss:List ByteArray} {log:ByteArray} {syn:Int} {vr:Value} {l:List Rw}(h:Ix7 w c b d R r e ss log syn vr l) (a:Below w.heap.size w w'):Ix7 w' c b d R r e ss log syn vr l :=
 ⟨h.box.below a,h.ents.below a,h.pages.below a,h.rows.below a,h.low⟩
theorem Ix7.putRows {w:World} {a b:Nat} {d:Value} {R:RA} {r:ByteArray} {e:Value} {ss:List ByteArray} {log:ByteArray} {syn:Int} {vr:Value} {l:List Rw}(h:Ix7 w a b d R r e ss log syn vr l){vr':Value} {l':List Rw}(c:Rws w a vr' l') :
  Ix7 (w.setCell ⟨b,7,none⟩ vr') a b d R r e ss log syn vr' l' :=
 have g:=dq w b 7 vr';⟨h.box.rows vr',h.ents.boxT h.box (by decide) (by decide) g,World.ownsRow.kept h.pages g (iw h.pages h.box (by decide)),World.ownsRow.kept c g (iw c h.box (by decide)),h.low⟩
theorem bj.lists7 {w:World} {o hi:Nat} {v:Value} {gs:List (List Rw)} {vs:List Value}(h:bj w o hi v gs vs):qu w v gs:=by
 obtain⟨a,c,rfl,d⟩:=h.form;refine⟨a,c,rfl,?_⟩
 cases gs with
 | nil=>exact .inl rfl
 | cons g0 gs' =>
  obtain⟨p,f,_⟩:=h.ins 0 g0 rfl;obtain⟨g,rfl,_,_,_⟩:=d 0 p f;refine .inr ⟨g,0,rfl,fun k q hq=>?_⟩;obtain⟨x,n,e,_⟩:=h.ins k q hq;obtain⟨r,b,_,_,l,_⟩:=d k x n;obtain⟨i,j,m⟩:=bz e;subst m;injection b with b;injection b with b;subst b;exact⟨i,j,by rw[Nat.zero_add];exact l,ew e⟩
def pg7:ByteArray:=⟨#[80,71,1,0,0,0,0]⟩
theorem Kt:an pg7=[⟨⟨#[]⟩,⟨#[]⟩,⟨#[]⟩⟩]:=by kernel_rfl
theorem Zw (a:ByteArray):ltK a ⟨#[]⟩=false:=by
 unfold ltK;rw[show (⟨#[]⟩:ByteArray).toList=[] by rw[ByteArray.toList_eq]]
 cases a.toList <;> rfl
theorem Mc:∀ (ss:List ByteArray) (acc gs:List (List Rw)) (s:ByteArray),bkF acc (ss++[s])=some gs->∃ gs0,bkF acc ss=some gs0/\ft gs0 s=true/\gs=gs0++[an s]
 | [],acc,gs,s,h=>by
  have a:(if ft acc s=true then bkF (acc++[an s]) [] else none)=some gs:=h;split at a
  .rename_i ho
   have b:some (acc++[an s])=some gs:=a
   cases b
   exact⟨acc,rfl,ho,rfl⟩
  .cases a
 | t::ss,acc,gs,s,h=>by
  have a:(if ft acc t=true then bkF (acc++[an t]) (ss++[s]) else none)=some gs:=h;split at a
  .rename_i ho
   obtain⟨gs0,q1,q2,q3⟩:=Mc ss _ gs s a;refine⟨gs0,?_,q2,q3⟩;show (if ft acc t=true then bkF (acc++[an t]) ss else none)=some gs0
   rw[if_pos ho,q1]
  .cases a
theorem ah1 {ss:List ByteArray}(h:q9 ss):q9 (ss++[pg7]):=by
 intro f a;unfold ca at a;split at a
 .rename_i h40
  obtain⟨gs0,q1,q2,q3⟩:=Mc ss [] f pg7 a;have e:ca ss=some gs0:=by
   unfold ca;rw[if_pos (by simp at h40;omega)];exact q1
  have i:=h gs0 e;have g:gs0=[]:=by
   unfold ft at q2;rw[Bool.and_eq_true]at q2
   cases hg:gs0.getLast? with
   | none=>exact List.getLast?_eq_none_iff.1 hg
   | some l =>
    have b:=q2.2;rw[hg]at b;have c:ltK (mu l) (qb (an pg7))=true:=b;rw[Kt]at c;have d:ltK (mu l) ⟨#[]⟩=true:=c;rw[Zw]at d
    cases d
  subst g;rw[q3,Kt];refine⟨by simp,fun x hx=>?_⟩;have:x=⟨⟨#[]⟩,⟨#[]⟩,⟨#[]⟩⟩:=by simpa using hx
  subst this;exact⟨by decide,by decide⟩
 .cases a
def Lg7 (d:Ds7):Prop:=d.log.size<=6000/\d.ss.length<=40
theorem as8 {d:Ds7}(h:Lg7 d) (k:Int) (x v:ByteArray):Lg7 (do7 d k x v).2:=by
 unfold do7;split
 .exact⟨Nat.zero_le _,Nat.zero_le _⟩
 .split
  .unfold doL
   split
   .exact h
   split
   .split
    .rename_i pp hp
     obtain⟨_,_,_,_,_,a,_⟩:=Ay hp;exact⟨Nat.zero_le _,a⟩
    .exact h
   split
   .split
    .rename_i hs
     refine⟨?_,h.2⟩;show (d.log++_).size<=6000
     rw[ByteArray.size_append];exact hs
    .exact h
   .exact h
  .exact⟨Nat.zero_le _,Nat.zero_le _⟩
end Go.Proofs.YtjbmgghehdemdaaGreatDoor
