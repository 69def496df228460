/- SSml7 -/
import Derived.Test.YtjbmgghehdemdaaGreatDoorMT36
namespace Go.Proofs.YtjbmgghehdemdaaGreatDoor
set_option maxRecDepth 100000
set_option maxHeartbeats 16000000
open _root_.Go.Proofs.Tryz
open Go.RowKit
theorem om {w:World} {B:Nat} {vd:Value} {d:Ds7}(hD:Dk7 w B vd d) :
  Calls prog 32 #[.agg #[.string d.r,vd,.string d.log,.int .i64 d.syn]] w fun e w'=>∃ ve vr,e=.returned (.tuple #[.agg #[ve,.bool (aa d.r).sh,.int .i64 (aa d.r).lv],vr,.bool (fu d).isSome])∧ac w' w.heap.size ve (aa d.r).es∧Rws w' w.heap.size vr ((fu d).getD [])∧Below w.heap.size w w' :=
 Vx d.r d.log d.syn hD.ok.rules (Nat.le_trans hD.ok.log (by decide)) hD.pages hD.ok.page hD.ok.pages hD.ok.side
theorem zv (w:World) (k a b:Int):Calls prog 34 #[.int .i64 k,.int .i64 a,.int .i64 b] w fun e w'=>e=.returned (.bool (decide (a≤k∧k≤b)))∧w'=w:=by
 by_cases h1:a≤k
 .by_cases h2:k≤b
  .rw[decide_eq_true ⟨h1,h2⟩]
   go_enter func34,ntmps34;go_wp2;go_ret;exact⟨rfl,rfl⟩
  .rw[decide_eq_false (fun c=>h2 c.2)]
   have h3:decide (k≤b)=false:=decide_eq_false h2;go_enter func34,ntmps34;go_wp2;go_ret;exact⟨by first|rfl|(rw[<- h3];rfl),rfl⟩
 .rw[decide_eq_false (fun c=>h1 c.1)]
  have h3:decide (a≤k)=false:=decide_eq_false h1;go_enter func34,ntmps34;go_wp2;go_ret;exact⟨by first|rfl|(rw[<- h3];rfl),rfl⟩
theorem uf {w:World} {B:Nat} {vd:Value} {d:Ds7}(hD:Dk7 w B vd d) :
  Calls prog 33 #[.agg #[.string d.r,vd,.string d.log,.int .i64 d.syn]] w fun e w'=>e=.returned (.bool (cm d).isSome)∧Below w.heap.size w w':=by
 obtain⟨ad,cd,a8⟩:=hD.form;subst a8;have a3:Below w.heap.size w (w.alloc (.cells #[.string d.r,.slice ad d.ss.length cd,.string d.log,.int .i64 d.syn] 25)):=bY _;have OD:=om (hD.below a3);have a7:Hid (ba (w.alloc (.cells #[.string d.r,.slice ad d.ss.length cd,.string d.log,.int .i64 d.syn] 25)) w.heap.size d.r (.slice ad d.ss.length cd) d.log d.syn):=ba.new w _ _ _ _;have a2:Hid (Below w.heap.size w (w.alloc (.cells #[.string d.r,.slice ad d.ss.length cd,.string d.log,.int .i64 d.syn] 25))):=a3;have ab:=hD.ok.log
 cases ho:fu d with
 | none =>
  have HV:Hid ((cm d).isSome=false):=by show _=_;unfold cm;rw[ho];split <;> rfl
  rw[ho]at OD;rw[HV.out];have a1:Calls prog 32 #[.agg #[.string d.r,.slice ad d.ss.length cd,.string d.log,.int .i64 d.syn]] (w.alloc (.cells #[.string d.r,.slice ad d.ss.length cd,.string d.log,.int .i64 d.syn] 25)) fun e w'=>∃ ve vr,e=.returned (.tuple #[.agg #[ve,.bool (aa d.r).sh,.int .i64 (aa d.r).lv],vr,.bool false])∧ac w' _ ve (aa d.r).es∧Rws w' _ vr []∧Below _ _ w':=OD
  clear hD a3 OD ho;go_enter func33,ntmps33;go_wp2_with fail;refine a1.mono ?_;rintro e w1 ⟨ve,vr,rfl,h1,h2,b1⟩;obtain⟨va,vc,a5⟩:=cu h1;subst a5;have a0:=a2.out.trans (b1.mono a2.out.size);have a4:Hid (∀ o,Below w.heap.size w (w1.alloc o)):=fun o=>a0.alloc a0.size o
  clear a1 h1 h2 b1 a0;go_wp2;go_ret;exact⟨rfl,a4.out _⟩
 | some l =>
  rw[ho]at OD;have a1:Calls prog 32 #[.agg #[.string d.r,.slice ad d.ss.length cd,.string d.log,.int .i64 d.syn]] (w.alloc (.cells #[.string d.r,.slice ad d.ss.length cd,.string d.log,.int .i64 d.syn] 25)) fun e w'=>∃ ve vr,e=.returned (.tuple #[.agg #[ve,.bool (aa d.r).sh,.int .i64 (aa d.r).lv],vr,.bool true])∧ac w' _ ve (aa d.r).es∧Rws w' _ vr l∧Below _ _ w':=OD
  obtain⟨b,hb⟩:∃ b,b=decide (0≤d.syn∧d.syn≤(d.log.size:Int)):=⟨_,rfl⟩
  have HV:Hid ((cm d).isSome=b):=by
   show _=_
   rw[hb];unfold cm ov;by_cases hs:0≤d.syn∧d.syn≤(d.log.size:Int)
   .rw[decide_eq_true hs,if_pos rfl,ho];rfl
   .rw[decide_eq_false hs,if_neg (by simp)];rfl
  have a6:Hid (∀ u,Calls prog 34 #[.int .i64 d.syn,.int .i64 0,.int .i64 (d.log.size:Int)] u fun e w'=>e=.returned (.bool b)∧w'=u):=fun u=>by rw[hb];exact zv u d.syn 0 (d.log.size:Int)
  rw[HV.out];clear hD a3 OD ho hb HV;go_enter func33,ntmps33;go_wp2_with fail;refine a1.mono ?_;rintro e w1 ⟨ve,vr,rfl,h1,h2,b1⟩;obtain⟨va,vc,a5⟩:=cu h1;subst a5;have a0:=a2.out.trans (b1.mono a2.out.size);have a4:Hid (∀ o,Below w.heap.size w (w1.alloc o)):=fun o=>a0.alloc a0.size o
  obtain⟨a9,d0,d1,d2,d3,df⟩:=(a7.out.below b1).facts;have IN:=fun o=>a6.out (w1.alloc o)
  clear a1 h1 h2 b1 a0 a6;go_wp2_with fail;refine (IN _).mono ?_;rintro e w2 ⟨rfl,rfl⟩;go_wp2;go_ret;exact⟨rfl,a4.out _⟩
theorem Vy {w:World} {B:Nat} {vd:Value} {d:Ds7}(hD:Dk7 w B vd d) :
  Calls prog 11 #[.agg #[.string d.r,vd,.string d.log,.int .i64 d.syn]] w fun e w'=>∃ v,e=.returned (.tuple #[v,.bool (fu d).isSome])∧Rws w' w.heap.size v ((fu d).getD [])∧Below w.heap.size w w':=by
 obtain⟨ad,cd,a6⟩:=hD.form;subst a6;have a3:Below w.heap.size w (w.alloc (.cells #[.string d.r,.slice ad d.ss.length cd,.string d.log,.int .i64 d.syn] 25)):=bY _;have OD:=om (hD.below a3);have a1:Hid (Below w.heap.size w (w.alloc (.cells #[.string d.r,.slice ad d.ss.length cd,.string d.log,.int .i64 d.syn] 25))):=a3;generalize fu d=o at *;clear hD a3
 cases o with
 | none =>
  go_enter func11,ntmps11;go_wp2_with fail;refine OD.mono ?_;rintro e w1 ⟨ve,vr,rfl,h1,h2,b1⟩;obtain⟨va,vc,a4⟩:=cu h1;subst a4;have a0:=a1.out.trans (b1.mono a1.out.size);have a2:Hid (∀ o,Below w.heap.size w (w1.alloc o)):=fun o=>a0.alloc a0.size o
  have hz:((none:Option (List Rw)).isSome)=false:=rfl;clear OD h1 h2 b1 a0;go_wp2;go_ret2;exact⟨_,rfl,World.ownsRow_nil _ _ _ _,a2.out _⟩
 | some l =>
  go_enter func11,ntmps11;go_wp2_with fail;refine OD.mono ?_;rintro e w1 ⟨ve,vr,rfl,h1,h2,b1⟩;obtain⟨va,vc,a4⟩:=cu h1;subst a4;have a0:=a1.out.trans (b1.mono a1.out.size);have a2:Hid (∀ o,Below w.heap.size w (w1.alloc o)):=fun o=>a0.alloc a0.size o
  have a5:Hid (∀ o,Rws (w1.alloc o) w.heap.size vr l):=fun o=>(cz h2 a1.out.size).below (bY o)
  have hz:((some l:Option (List Rw)).isSome)=true:=rfl;clear OD h1 h2 b1 a0;go_wp2;go_ret2;exact⟨_,rfl,a5.out _,a2.out _⟩
def Co (r:ByteArray):ByteArray:=if (aa r).code=0 then r else ⟨#[]⟩
theorem ad2 (w:World) (r:ByteArray) (hr:r.size≤1048576) :
  Calls prog 65 #[.string r] w fun e w'=>∃ b,e=.returned (.tuple #[.agg #[.string (Co r),.slice none 0 0,.string ⟨#[]⟩,.int .i64 0],.bool b])∧Below w.heap.size w w':=by
 have a5:Below w.heap.size w (w.alloc (.cells #[.string ⟨#[]⟩,.slice none 0 0,.string ⟨#[]⟩,.int .i64 0] 25)):=bY _;have a7:Hid (ba (w.alloc (.cells #[.string ⟨#[]⟩,.slice none 0 0,.string ⟨#[]⟩,.int .i64 0] 25)) w.heap.size ⟨#[]⟩ (.slice none 0 0) ⟨#[]⟩ 0):=ba.new w _ _ _ _;obtain⟨R,hR⟩:∃ R,R=aa r:=⟨_,rfl⟩
 obtain⟨cde,a0⟩:∃ c,c=R.code:=⟨_,rfl⟩
 have RD:Calls prog 23 #[.string r] (w.alloc (.cells #[.string ⟨#[]⟩,.slice none 0 0,.string ⟨#[]⟩,.int .i64 0] 25)) fun e w'=>∃ vE,e=.returned (.tuple #[.agg #[vE,.bool R.sh,.int .i64 R.lv],.int .i64 cde])∧ac w' (w.alloc (.cells #[.string ⟨#[]⟩,.slice none 0 0,.string ⟨#[]⟩,.int .i64 0] 25)).heap.size vE R.es∧Below (w.alloc (.cells #[.string ⟨#[]⟩,.slice none 0 0,.string ⟨#[]⟩,.int .i64 0] 25)).heap.size (w.alloc (.cells #[.string ⟨#[]⟩,.slice none 0 0,.string ⟨#[]⟩,.int .i64 0] 25)) w':=by rw[a0,hR];exact Fy r _ (by omega)
 have a3:Hid (Below w.heap.size w _):=a5;by_cases h0:cde=0
 .have HV:Hid (Co r=r):=by show _=_;unfold Co;rw[if_pos (by rw[<- hR,<- a0];exact h0)]
  rw[HV.out];clear a0 hR a5;subst h0;go_enter func65,ntmps65;go_wp2_with fail;refine RD.mono ?_;rintro e w1 ⟨ve,rfl,h1,b1⟩;obtain⟨va,vc,a6⟩:=cu h1;subst a6;have a2:=a3.out.trans (b1.mono a3.out.size);obtain⟨a8,d0,d1,d2,d3,df⟩:=(a7.out.below b1).facts;have a1:=jk (p:=w.heap.size) a2 bR (.string r) (.slice none 0 0) (.string ⟨#[]⟩) (.int .i64 0);have a4:Hid (∀ o,Below w.heap.size w ((s4D w1 w.heap.size (.string r) (.slice none 0 0) (.string ⟨#[]⟩) (.int .i64 0)).alloc o)):=fun o=>a1.alloc a1.size o
  clear RD h1 b1 a2 a1;go_wp2;refine bodyPost_ret (v:=.tuple #[.agg #[.string r,.slice none 0 0,.string ⟨#[]⟩,.int .i64 0],.bool true]) ?_ rfl ⟨true,rfl,a4.out _⟩;rw[results_cell_tmp rfl];go_simp
 .have HV:Hid (Co r=⟨#[]⟩):=by show _=_;unfold Co;rw[if_neg (by rw[<- hR,<- a0];exact h0)]
  rw[HV.out];have a9:(cde != 0)=true:=by simpa using h0
  clear a0 hR a5 h0;go_enter func65,ntmps65;go_wp2_with fail;refine RD.mono ?_;rintro e w1 ⟨ve,rfl,h1,b1⟩;obtain⟨va,vc,a6⟩:=cu h1;subst a6;have a2:=a3.out.trans (b1.mono a3.out.size);obtain⟨a8,d0,d1,d2,d3,df⟩:=(a7.out.below b1).facts;have a1:=jk (p:=w.heap.size) a2 bR (.string ⟨#[]⟩) (.slice none 0 0) (.string ⟨#[]⟩) (.int .i64 0);have a4:Hid (∀ o,Below w.heap.size w ((s4D w1 w.heap.size (.string ⟨#[]⟩) (.slice none 0 0) (.string ⟨#[]⟩) (.int .i64 0)).alloc o)):=fun o=>a1.alloc a1.size o
  clear RD h1 b1 a2 a1;go_wp2;refine bodyPost_ret (v:=.tuple #[.agg #[.string ⟨#[]⟩,.slice none 0 0,.string ⟨#[]⟩,.int .i64 0],.bool false]) ?_ rfl ⟨false,rfl,a4.out _⟩;rw[results_cell_tmp rfl];go_simp
theorem Fx {w:World} {B:Nat} {vd:Value} {d:Ds7}(hD:Dk7 w B vd d) :
  Calls prog 35 #[.agg #[.string d.r,vd,.string d.log,.int .i64 d.syn]] w fun e w'=>∃ vp,e=.returned (.agg #[.string d.r,vp,.string d.log,.int .i64 d.syn])∧ak w' w.heap.size vp d.ss∧Below w.heap.size w w':=by
 obtain⟨ad,cd,aq⟩:=hD.form;subst aq;obtain⟨W0,hW⟩:∃ W0,W0=(w.alloc (.cells #[.string d.r,.slice ad d.ss.length cd,.string d.log,.int .i64 d.syn] 25)).alloc (.cells #[.string ⟨#[]⟩,.slice none 0 0,.string ⟨#[]⟩,.int .i64 0] 25):=⟨_,rfl⟩
 have a4:Below w.heap.size w W0:=by rw[hW];exact (bY _).alloc (by simp) _
 have ao:W0.heap.size=w.heap.size+2:=by rw[hW];simp
 have a8:ba W0 w.heap.size d.r (.slice ad d.ss.length cd) d.log d.syn:=by
  show _=_
  rw[hW,Below.heap_alloc _ _ _ (by simp)];exact heap_alloc_new w _
 have ae:ba W0 (w.heap.size+1) ⟨#[]⟩ (.slice none 0 0) ⟨#[]⟩ 0:=by
  have h:=ba.new (w.alloc (.cells #[.string d.r,.slice ad d.ss.length cd,.string d.log,.int .i64 d.syn] 25)) ⟨#[]⟩ (.slice none 0 0) ⟨#[]⟩ 0;rw[World.size_alloc]at h;rw[hW];exact h
 have bL:=(Below.refl W0.heap.size W0).alloc bR (.cells #[] 9);have a6:Hid (ak (W0.alloc (.cells #[] 9)) w.heap.size (.slice (some ⟨w.heap.size+2,0,none⟩) 0 0) []):=a48 W0 _ w.heap.size ao.symm a4.size;have ac:Hid (ak (W0.alloc (.cells #[] 9)) B (.slice ad d.ss.length cd) d.ss):=(hD.pages.below a4).below bL;have a5:Hid (Below w.heap.size w (W0.alloc (.cells #[] 9))):=a4.trans (bL.mono a4.size);have ab:Hid (ba (W0.alloc (.cells #[] 9)) w.heap.size d.r (.slice ad d.ss.length cd) d.log d.syn):=a8.below bL;have aa:Hid (ba (W0.alloc (.cells #[] 9)) (w.heap.size+1) ⟨#[]⟩ (.slice none 0 0) ⟨#[]⟩ 0):=ae.below bL;have aw:=hD.ok.pages;have HW:Hid (W0=(w.alloc (.cells #[.string d.r,.slice ad d.ss.length cd,.string d.log,.int .i64 d.syn] 25)).alloc (.cells #[.string ⟨#[]⟩,.slice none 0 0,.string ⟨#[]⟩,.int .i64 0] 25)):=hW;obtain⟨an,d0,d1,d2,d3,df⟩:=a8.facts
 clear hD a4 a8 ae bL hW;go_enter func35,ntmps35;go_upto_region 1 with fail
 rw[<- HW.out];clear HW;go_wp2_with (at_builtin;refine E9 rfl _ _ rfl w.heap.size B (.slice (some ⟨w.heap.size+2,0,none⟩) 0 0) (.slice ad d.ss.length cd) [] d.ss rfl rfl a6.out ac.out (by simp;omega) a5.out.size ?_)
 intro v1 w1 r1 g1;replace r1:ak w1 w.heap.size v1 d.ss:=r1;obtain⟨a1,c1,ap⟩:=ip r1;subst ap;have a9:ba w1 w.heap.size d.r (.slice ad d.ss.length cd) d.log d.syn:=Do ab.out a6.out (by decide) g1;have a7:ba w1 (w.heap.size+1) ⟨#[]⟩ (.slice none 0 0) ⟨#[]⟩ 0:=Do aa.out a6.out (by decide) g1;have ah:Below w.heap.size w w1:=Below.grown a5.out g1 a5.out.size (fun j hj=>by have:w.heap.size+2=j:=Option.some.inj hj;omega);have ai:Below w.heap.size w (w1.setCell ⟨w.heap.size,1,none⟩ (.slice a1 d.ss.length c1)):=ah.setCell (p:=⟨w.heap.size,1,none⟩) bR _;have ag:=a7.set (p:=w.heap.size) (k:=1) (by omega) (.slice a1 d.ss.length c1);have aj:ak (w1.setCell ⟨w.heap.size,1,none⟩ (.slice a1 d.ss.length c1)) w.heap.size (.slice a1 d.ss.length c1) d.ss:=r1.box a9 (by decide) (dq w1 w.heap.size 1 _)
 have am:Hid (ak _ _ _ _):=aj.box ag (by decide) (lu _ (w.heap.size+1) (.string d.r) (.slice a1 d.ss.length c1) (.string d.log) (.int .i64 d.syn));have al:Hid (Below _ _ _):=jk (p:=w.heap.size+1) ai (by omega) (.string d.r) (.slice a1 d.ss.length c1) (.string d.log) (.int .i64 d.syn);obtain⟨an,d0,d1,d2,d3,df⟩:=a9.facts;obtain⟨au,a0,ar,a2,a3,af⟩:=a7.facts;clear r1 g1 a9 a7 ah ai ag aj ab aa a6 ac a5;go_wp2;refine bodyPost_ret (v:=.agg #[.string d.r,.slice a1 d.ss.length c1,.string d.log,.int .i64 d.syn]) ?_ rfl ⟨.slice a1 d.ss.length c1,rfl,am.out,al.out⟩;rw[av rfl];go_simp
theorem Si (w:World) (n B:Nat) (xs:List Int) (hn:n=w.heap.size) (hB:B≤w.heap.size) (hl:xs.length≤100):Bys (w.alloc (.cells (xs.map (Value.int .u8)).toArray 5)) B (.slice (some ⟨n,0,none⟩) xs.length xs.length) xs:=by
 subst hn;exact⟨by simp,.inr ⟨w.heap.size,xs.length,_,rfl,hB,heap_alloc_new _ _,bR,by unfold maxLen;omega,by simp,by simp[List.take_of_length_le]⟩⟩
theorem Ty (w:World) (o:Dn) (hx:o.text.size≤60) (hv:o.val.size≤60) :
  Calls prog 83 #[.agg #[.int .i64 (kn7 o),.string o.text,.string o.val]] w fun e w'=>e=.returned (.string (oo o))∧Below w.heap.size w w':=by
 obtain⟨p,x,v⟩:=o;have a4:x.size≤60:=hx;have a3:v.size≤60:=hv;have w1:IntKind.u8.wrap (x.size:Int)=(x.size:Int):=by rw[IntKind.wrap_u8];omega
 have w2:IntKind.u8.wrap (v.size:Int)=(v.size:Int):=by rw[IntKind.wrap_u8];omega
 have a1:Hid (∀ o o2:Obj,Below w.heap.size w ((w.alloc o).alloc o2)):=fun o o2=>(bY o).alloc (by simp) o2
 clear hx hv
 cases p
 .show Calls prog 83 #[.agg #[.int .i64 2,.string x,.string v]] w fun e w'=>_
  have hc:=xb (Si (w.alloc (.cells #[.int .i64 2,.string x,.string v] 27)) (w.heap.size+1) 0 [(x.size:Int)] (by simp) (Nat.zero_le _) (by simp));obtain⟨lb,a0⟩:∃ lb,ix [(x.size:Int)]=lb:=⟨_,rfl⟩
  have a2:lb.size=1:=by rw[<- a0];rfl
  have HF:Hid (oo ⟨false,x,v⟩=⟨#[100]⟩++lb++x++⟨#[46]⟩):=by show _=_;rw[<- a0];rfl
  rw[a0]at hc;simp only[List.map_cons,List.map_nil,List.length_cons,List.length_nil]at hc;rw[HF.out];clear a0;go_enter func83,ntmps83;go_wp2;go_ret;exact⟨rfl,a1.out _ _⟩
 .show Calls prog 83 #[.agg #[.int .i64 1,.string x,.string v]] w fun e w'=>_
  have hc:=xb (Si (w.alloc (.cells #[.int .i64 1,.string x,.string v] 27)) (w.heap.size+1) 0 [(x.size:Int),(v.size:Int)] (by simp) (Nat.zero_le _) (by simp));obtain⟨lb,a0⟩:∃ lb,ix [(x.size:Int),(v.size:Int)]=lb:=⟨_,rfl⟩
  have a2:lb.size=2:=by rw[<- a0];rfl
  have HF:Hid (oo ⟨true,x,v⟩=⟨#[112]⟩++lb++x++v++⟨#[46]⟩):=by show _=_;rw[<- a0];rfl
  rw[a0]at hc;simp only[List.map_cons,List.map_nil,List.length_cons,List.length_nil]at hc;rw[HF.out];clear a0;go_enter func83,ntmps83;go_wp2;go_ret;exact⟨rfl,a1.out _ _⟩
def wrC (R:RA) (l:List Rw) (log:ByteArray) (o:Dn):Int × ByteArray :=
 if apC R l o=0 then (if log.size+(oo o).size≤6000 then (0,log++oo o) else (3,log)) else (apC R l o,log)
structure Hw7 (w u:World) (r:ByteArray) (vp:Value) (log:ByteArray) (syn:Int) (ve:Value) (R:RA) (kd:Int) (o:Dn):Prop where
 disk:ba u w.heap.size r vp log syn
 rul:jf u (w.heap.size+1) ve R.sh R.lv
 dob:gi u (w.heap.size+2) kd o.text o.val
 ans:ba u (w.heap.size+3) ⟨#[]⟩ (.slice none 0 0) ⟨#[]⟩ 0
 ents:∃ B,ac u B ve R.es
 bel:Below w.heap.size w u
theorem Hw7.below {w u u':World} {r:ByteArray} {vp:Value} {log:ByteArray} {syn:Int} {ve:Value} {R:RA} {kd:Int} {o:Dn}(h:Hw7 w u r vp log syn ve R kd o) (hb:Below u.heap.size u u'):Hw7 w u' r vp log syn ve R kd o :=
 ⟨h.disk.below hb,h.rul.below hb,h.dob.below hb,h.ans.below hb,h.ents.imp fun _ q=>q.below hb,h.bel.trans (hb.mono h.bel.size)⟩
theorem Hw7.log {w u:World} {r:ByteArray} {vp:Value} {log:ByteArray} {syn:Int} {ve:Value} {R:RA} {kd:Int} {o:Dn}(h:Hw7 w u r vp log syn ve R kd o) (a0:ByteArray) :
  ba (u.setCell ⟨w.heap.size,2,none⟩ (.string a0)) w.heap.size r vp a0 syn∧ba (u.setCell ⟨w.heap.size,2,none⟩ (.string a0)) (w.heap.size+3) ⟨#[]⟩ (.slice none 0 0) ⟨#[]⟩ 0∧Below w.heap.size w (u.setCell ⟨w.heap.size,2,none⟩ (.string a0)):=by
 refine⟨?_,h.ans.set (by omega) _,h.bel.setCell (p:=⟨w.heap.size,2,none⟩) bR _⟩;have e:=heap_setCell_same u w.heap.size 2 _ _ (.string a0) h.disk;show _=_
 rw[e];simp
theorem ap6 {o:Dn}(hx:o.text.size≤60) (hv:o.val.size≤60):(oo o).size≤200:=by
 rw[a24];split <;> omega
theorem Ij {w:World} {B Bl na cd:Nat} {ad:Option Addr} {ve vr:Value} {R:RA} {l:List Rw}(r log:ByteArray) (syn:Int) (o:Dn) (aW:log.size≤1000000) (aQ:o.text.size≤1048576) (aY:o.val.size≤1048576) (hE:ac w B ve R.es) (aP:ay R.es R.lv=true) (hl:Rws w Bl vr l) (aN:im R l) :
  Calls prog 37 #[.agg #[.string r,.slice ad na cd,.string log,.int .i64 syn],.agg #[ve,.bool R.sh,.int .i64 R.lv],vr,.agg #[.int .i64 (kn7 o),.string o.text,.string o.val]] w fun e w' =>
   e=.returned (.tuple #[.agg #[.string r,.slice ad na cd,.string (wrC R l log o).2,.int .i64 syn],.int .i64 (wrC R l log o).1])∧Below w.heap.size w w':=by
 obtain⟨va,vc,rfl⟩:=cu hE;obtain⟨ar,cr,aV⟩:=bz hl;subst aV;obtain⟨W0,hW⟩:∃ W0,W0=(((w.alloc (.cells #[.string r,.slice ad na cd,.string log,.int .i64 syn] 25)).alloc (.cells #[.slice va R.es.length vc,.bool R.sh,.int .i64 R.lv] 56)).alloc (.cells #[.int .i64 (kn7 o),.string o.text,.string o.val] 27)).alloc (.cells #[.string ⟨#[]⟩,.slice none 0 0,.string ⟨#[]⟩,.int .i64 0] 25):=⟨_,rfl⟩
 obtain⟨kd,ax⟩:∃ kd,kd=kn7 o:=⟨_,rfl⟩
 have aH:Below w.heap.size w W0:=by rw[hW];exact (((bY _).alloc (by simp) _).alloc (by simp;omega) _).alloc (by simp;omega) _
 have HH:Hid (Hw7 w W0 r (.slice ad na cd) log syn (.slice va R.es.length vc) R kd o):=by
  refine⟨?_,?_,?_,?_,⟨B,hE.below aH⟩,aH⟩
  .show _=_
   rw[hW,Below.heap_alloc _ _ _ (by simp;omega),Below.heap_alloc _ _ _ (by simp;omega),Below.heap_alloc _ _ _ (by simp)];exact heap_alloc_new w _
  .show _=_
   rw[hW,Below.heap_alloc _ _ _ (by simp),Below.heap_alloc _ _ _ (by simp)];have h:=heap_alloc_new (w.alloc (.cells #[.string r,.slice ad na cd,.string log,.int .i64 syn] 25)) (.cells #[.slice va R.es.length vc,.bool R.sh,.int .i64 R.lv] 56);rw[World.size_alloc]at h;exact h
  .show _=_
   rw[hW,Below.heap_alloc _ _ _ (by simp),ax];have h:=heap_alloc_new ((w.alloc (.cells #[.string r,.slice ad na cd,.string log,.int .i64 syn] 25)).alloc (.cells #[.slice va R.es.length vc,.bool R.sh,.int .i64 R.lv] 56)) (.cells #[.int .i64 (kn7 o),.string o.text,.string o.val] 27);rw[World.size_alloc,World.size_alloc]at h;exact h
  .show _=_
   rw[hW];have h:=heap_alloc_new (((w.alloc (.cells #[.string r,.slice ad na cd,.string log,.int .i64 syn] 25)).alloc (.cells #[.slice va R.es.length vc,.bool R.sh,.int .i64 R.lv] 56)).alloc (.cells #[.int .i64 (kn7 o),.string o.text,.string o.val] 27)) (.cells #[.string ⟨#[]⟩,.slice none 0 0,.string ⟨#[]⟩,.int .i64 0] 25);rw[World.size_alloc,World.size_alloc,World.size_alloc]at h;exact h
 have HL:Hid (∀ u,Below w.heap.size w u→Rws u Bl (.slice ar l.length cr) l):=fun u hu=>hl.below hu
 have HW:Hid (W0=(((w.alloc (.cells #[.string r,.slice ad na cd,.string log,.int .i64 syn] 25)).alloc (.cells #[.slice va R.es.length vc,.bool R.sh,.int .i64 R.lv] 56)).alloc (.cells #[.int .i64 kd,.string o.text,.string o.val] 27)).alloc (.cells #[.string ⟨#[]⟩,.slice none 0 0,.string ⟨#[]⟩,.int .i64 0] 25)):=by rw[ax];exact hW
 obtain⟨Be,aM⟩:=HH.out.ents;have LK:=Cj o.text aQ aM aP;obtain⟨aK,u0,u1,u2⟩:=HH.out.rul.facts;obtain⟨aa,o0,o1,o2⟩:=HH.out.dob.facts;have aw:Hid (im R l):=aN;have af:Hid (kd=kn7 o):=ax;rw[<- ax];clear hE hl aN aH hW aM ax
 cases hfit:gn R o.text
 .have HC:Hid (wrC R l log o=(2,log)):=by show _=_;unfold wrC;rw[rz (by rw[hfit];rfl),if_neg (by decide)]
  rw[hfit]at LK;generalize (if o.text.size≤60 then bh R o.text else ⟨#[]⟩)=key at LK;clear hfit af;go_enter func37,ntmps37;go_upto_region 1 with fail
  rw[<- HW.out];clear HW;go_wp2_with fail;refine LK.mono ?_;rintro e w1 ⟨rfl,b1⟩;have a0:Hid (Hw7 w w1 r (.slice ad na cd) log syn (.slice va R.es.length vc) R kd o):=HH.out.below b1;obtain⟨aa,o0,o1,o2⟩:=a0.out.dob.facts;clear LK b1;obtain⟨a6,ak,al,am,an,ao⟩:=a0.out.ans.facts;obtain⟨ae,aA,aB,aC,aD,aE⟩:=a0.out.disk.facts;have a5:Hid (Below _ _ _):=jk (p:=w.heap.size+3) a0.out.bel (by omega) (.string r) (.slice ad na cd) (.string log) (.int .i64 syn);go_wp2;refine bodyPost_ret (v:=.tuple #[.agg #[.string r,.slice ad na cd,.string log,.int .i64 syn],.int .i64 2]) ?_ rfl ⟨by rw[HC.out],a5.out⟩;rw[results_cell_tmp rfl];go_simp
 .obtain⟨ht6,hk2⟩:=vk hfit
  rw[if_pos ht6,hfit]at LK;obtain⟨key,a7⟩:∃ key,key=bh R o.text:=⟨_,rfl⟩
  rw[<- a7]at LK;by_cases hv:¬ o.val.size≤60
  .have HC:Hid (wrC R l log o=(2,log)):=by show _=_;unfold wrC;rw[rz (by rw[hfit,decide_eq_false hv];rfl),if_neg (by decide)]
   have aU:(60:Int)<(o.val.size:Int):=by omega
   clear hfit a7 af;go_enter func37,ntmps37;go_upto_region 1 with fail
   rw[<- HW.out];clear HW;go_wp2_with fail;refine LK.mono ?_;rintro e w1 ⟨rfl,b1⟩;have a0:Hid (Hw7 w w1 r (.slice ad na cd) log syn (.slice va R.es.length vc) R kd o):=HH.out.below b1;obtain⟨aa,o0,o1,o2⟩:=a0.out.dob.facts;clear LK b1;obtain⟨a6,ak,al,am,an,ao⟩:=a0.out.ans.facts;obtain⟨ae,aA,aB,aC,aD,aE⟩:=a0.out.disk.facts;have a5:Hid (Below _ _ _):=jk (p:=w.heap.size+3) a0.out.bel (by omega) (.string r) (.slice ad na cd) (.string log) (.int .i64 syn);go_wp2;refine bodyPost_ret (v:=.tuple #[.agg #[.string r,.slice ad na cd,.string log,.int .i64 syn],.int .i64 2]) ?_ rfl ⟨by rw[HC.out],a5.out⟩;rw[results_cell_tmp rfl];go_simp
  .replace hv:o.val.size≤60:=Decidable.not_not.1 hv
   have aU:¬ (60:Int)<(o.val.size:Int):=by omega
   have au:(gn R o.text && decide (o.val.size≤60))=true:=by rw[hfit,decide_eq_true hv];rfl
   have AT:=fun (u:World) (hu:Below w.heap.size w u)=>Dl (c:=cr) key (ew (HL.out u hu)) (by have:=aw.out.len;omega) aw.out.rise
   have ai:Hid (∀ u,Below w.heap.size w u→(∃ B,ac u B (.slice va R.es.length vc) R.es)→Calls prog 79 #[.agg #[.slice va R.es.length vc,.bool R.sh,.int .i64 R.lv],.slice ar l.length cr,.agg #[.int .i64 kd,.string o.text,.string o.val]] u fun e w'=>∃ v,e=.returned (.tuple #[v,.bool (decide (apC R l o=0))])∧(apC R l o=0→Rws w' u.heap.size v (apR R l o))∧Below u.heap.size u w'):=fun u hu ⟨_,q⟩=>by rw[af.out];exact Gn o aQ hv q aP (HL.out u hu) aw.out.rise aw.out.len
   have ap:Hid (∀ u,Calls prog 83 #[.agg #[.int .i64 kd,.string o.text,.string o.val]] u fun e w'=>e=.returned (.string (oo o))∧Below u.heap.size u w'):=fun u=>by rw[af.out];exact Ty u o ht6 hv
   have aX:=ap6 ht6 hv;have aq:Hid (apC R l o=0→(apR R l o).length≤60):=fun h=>(aw.out.step h).len
   cases hput:o.put
   .have hc:=Fg (l:=l) au hput
    have aI:kd=2:=by rw[af.out];unfold kn7;rw[hput];rfl
    rw[<- a7]at hc;subst aI
    cases hth:d9 l key
    .have HC:Hid (wrC R l log o=(4,log)):=by show _=_;unfold wrC;rw[hc,hth,if_neg (by decide),if_neg (by decide)]
     rw[hth]at AT;generalize az l key=p at AT;clear hfit a7 af au hc hth hput ai ap aq;go_enter func37,ntmps37;go_upto_region 1 with fail
     rw[<- HW.out];clear HW;go_wp2_with fail;refine LK.mono ?_;rintro e w1 ⟨rfl,b1⟩;have a0:Hid (Hw7 w w1 r (.slice ad na cd) log syn (.slice va R.es.length vc) R 2 o):=HH.out.below b1;obtain⟨aa,o0,o1,o2⟩:=a0.out.dob.facts;have ab:=AT w1 a0.out.bel;clear LK b1 AT;go_wp2_with fail;refine ab.mono ?_;rintro e w2 ⟨rfl,b2⟩;have a1:Hid (Hw7 w w2 r (.slice ad na cd) log syn (.slice va R.es.length vc) R 2 o):=a0.out.below b2;obtain⟨aa,o0,o1,o2⟩:=a1.out.dob.facts;clear ab b2;obtain⟨a6,ak,al,am,an,ao⟩:=a1.out.ans.facts;obtain⟨ae,aA,aB,aC,aD,aE⟩:=a1.out.disk.facts;have a5:Hid (Below _ _ _):=jk (p:=w.heap.size+3) a1.out.bel (by omega) (.string r) (.slice ad na cd) (.string log) (.int .i64 syn);go_wp2;refine bodyPost_ret (v:=.tuple #[.agg #[.string r,.slice ad na cd,.string log,.int .i64 syn],.int .i64 4]) ?_ rfl ⟨by rw[HC.out],a5.out⟩;rw[results_cell_tmp rfl];go_simp
    .have a4:apC R l o=0:=by rw[hc,hth];rfl
     rw[hth]at AT;generalize az l key=p at AT;clear hfit a7 af au hc hth hput;have av:Hid (decide (apC R l o=0)=true):=decide_eq_true a4;have aj:Hid ((apR R l o).length≤60):=aq.out a4;have ah:Hid (wrC R l log o=if log.size+(oo o).size≤6000 then (0,log++oo o) else (3,log)):=by show _=_;unfold wrC;rw[if_pos a4]
     have aF:Hid (apC R l o=0):=a4;clear a4 aq;go_enter func37,ntmps37;go_upto_region 1 with fail
     rw[<- HW.out];clear HW;go_wp2_with fail;refine LK.mono ?_;rintro e w1 ⟨rfl,b1⟩;have a0:Hid (Hw7 w w1 r (.slice ad na cd) log syn (.slice va R.es.length vc) R 2 o):=HH.out.below b1;obtain⟨aa,o0,o1,o2⟩:=a0.out.dob.facts;have ab:=AT w1 a0.out.bel;clear LK b1 AT;go_wp2_with fail;refine ab.mono ?_;rintro e w2 ⟨rfl,b2⟩;have a1:Hid (Hw7 w w2 r (.slice ad na cd) log syn (.slice va R.es.length vc) R 2 o):=a0.out.below b2;obtain⟨aa,o0,o1,o2⟩:=a1.out.dob.facts;obtain⟨aK,u0,u1,u2⟩:=a1.out.rul.facts;have AP:=ai.out w2 a1.out.bel a1.out.ents;rw[av.out]at AP;clear ab b2 ai;go_wp2_with fail;refine AP.mono ?_;rintro e w3 ⟨v3,rfl,r3,b3⟩;obtain⟨a3,c3,aL⟩:=bz (r3 aF.out);subst aL;have ag:Hid (Hw7 w w3 r (.slice ad na cd) log syn (.slice va R.es.length vc) R 2 o):=a1.out.below b3;obtain⟨aa,o0,o1,o2⟩:=ag.out.dob.facts;have aT:=aj.out;generalize (apR R l o).length=ln at *
     have aJ:¬ (60:Int)<(ln:Int):=by omega
     have BY:=ap.out w3;generalize oo o=rb at *;clear AP r3 b3 ap;go_wp2_with fail;refine BY.mono ?_;rintro e w4 ⟨rfl,b4⟩;have a9:Hid (Hw7 w w4 r (.slice ad na cd) log syn (.slice va R.es.length vc) R 2 o):=ag.out.below b4;obtain⟨aS,d0,d1,d2,d3,df⟩:=a9.out.disk.facts;clear BY b4;by_cases h6:log.size+rb.size≤6000
     .have aG:¬ (6000:Int)<(log.size:Int)+(rb.size:Int):=by omega
      have HC:Hid (wrC R l log o=(0,log++rb)):=by show _=_;rw[ah.out,if_pos h6]
      obtain⟨a8,a2⟩:∃ a8,a8=log++rb:=⟨_,rfl⟩
      have aR:Hid (a8=log++rb):=a2;obtain⟨k1,k2,k3⟩:=a9.out.log (log++rb);have a5:Hid (Below _ _ _):=jk (p:=w.heap.size+3) k3 (by omega) (.string r) (.slice ad na cd) (.string (log++rb)) (.int .i64 syn);obtain⟨a6,ak,al,am,an,ao⟩:=a9.out.ans.facts;clear k1 k2 k3 ah a2;go_wp2;refine bodyPost_ret (v:=.tuple #[.agg #[.string r,.slice ad na cd,.string (log++rb),.int .i64 syn],.int .i64 0]) ?_ rfl ⟨by rw[HC.out],a5.out⟩;rw[results_cell_tmp rfl];go_simp
     .have aG:(6000:Int)<(log.size:Int)+(rb.size:Int):=by omega
      have HC:Hid (wrC R l log o=(3,log)):=by show _=_;rw[ah.out,if_neg h6]
      clear ah;obtain⟨a6,ak,al,am,an,ao⟩:=a9.out.ans.facts;obtain⟨ae,aA,aB,aC,aD,aE⟩:=a9.out.disk.facts;have a5:Hid (Below _ _ _):=jk (p:=w.heap.size+3) a9.out.bel (by omega) (.string r) (.slice ad na cd) (.string log) (.int .i64 syn);go_wp2;refine bodyPost_ret (v:=.tuple #[.agg #[.string r,.slice ad na cd,.string log,.int .i64 syn],.int .i64 3]) ?_ rfl ⟨by rw[HC.out],a5.out⟩;rw[results_cell_tmp rfl];go_simp
   .have hc:=Im (l:=l) au hput
    have aI:kd=1:=by rw[af.out];unfold kn7;rw[hput];rfl
    subst aI;generalize d9 l key=th at AT;generalize az l key=p at AT;by_cases a4:apC R l o=0
    .clear hfit a7 af au hc hput
     have av:Hid (decide (apC R l o=0)=true):=decide_eq_true a4;have aj:Hid ((apR R l o).length≤60):=aq.out a4;have ah:Hid (wrC R l log o=if log.size+(oo o).size≤6000 then (0,log++oo o) else (3,log)):=by show _=_;unfold wrC;rw[if_pos a4]
     have aF:Hid (apC R l o=0):=a4;clear a4 aq;go_enter func37,ntmps37;go_upto_region 1 with fail
     rw[<- HW.out];clear HW;go_wp2_with fail;refine LK.mono ?_;rintro e w1 ⟨rfl,b1⟩;have a0:Hid (Hw7 w w1 r (.slice ad na cd) log syn (.slice va R.es.length vc) R 1 o):=HH.out.below b1;obtain⟨aa,o0,o1,o2⟩:=a0.out.dob.facts;have ab:=AT w1 a0.out.bel;clear LK b1 AT;go_wp2_with fail;refine ab.mono ?_;rintro e w2 ⟨rfl,b2⟩;have a1:Hid (Hw7 w w2 r (.slice ad na cd) log syn (.slice va R.es.length vc) R 1 o):=a0.out.below b2;obtain⟨aa,o0,o1,o2⟩:=a1.out.dob.facts;obtain⟨aK,u0,u1,u2⟩:=a1.out.rul.facts;have AP:=ai.out w2 a1.out.bel a1.out.ents;rw[av.out]at AP;clear ab b2 ai;go_wp2_with fail;refine AP.mono ?_;rintro e w3 ⟨v3,rfl,r3,b3⟩;obtain⟨a3,c3,aL⟩:=bz (r3 aF.out);subst aL;have ag:Hid (Hw7 w w3 r (.slice ad na cd) log syn (.slice va R.es.length vc) R 1 o):=a1.out.below b3;obtain⟨aa,o0,o1,o2⟩:=ag.out.dob.facts;have aT:=aj.out;generalize (apR R l o).length=ln at *
     have aJ:¬ (60:Int)<(ln:Int):=by omega
     have BY:=ap.out w3;generalize oo o=rb at *;clear AP r3 b3 ap;go_wp2_with fail;refine BY.mono ?_;rintro e w4 ⟨rfl,b4⟩;have a9:Hid (Hw7 w w4 r (.slice ad na cd) log syn (.slice va R.es.length vc) R 1 o):=ag.out.below b4;obtain⟨aS,d0,d1,d2,d3,df⟩:=a9.out.disk.facts;clear BY b4;by_cases h6:log.size+rb.size≤6000
     .have aG:¬ (6000:Int)<(log.size:Int)+(rb.size:Int):=by omega
      have HC:Hid (wrC R l log o=(0,log++rb)):=by show _=_;rw[ah.out,if_pos h6]
      obtain⟨a8,a2⟩:∃ a8,a8=log++rb:=⟨_,rfl⟩
      have aR:Hid (a8=log++rb):=a2;obtain⟨k1,k2,k3⟩:=a9.out.log (log++rb);have a5:Hid (Below _ _ _):=jk (p:=w.heap.size+3) k3 (by omega) (.string r) (.slice ad na cd) (.string (log++rb)) (.int .i64 syn);obtain⟨a6,ak,al,am,an,ao⟩:=a9.out.ans.facts;clear k1 k2 k3 ah a2;go_wp2;refine bodyPost_ret (v:=.tuple #[.agg #[.string r,.slice ad na cd,.string (log++rb),.int .i64 syn],.int .i64 0]) ?_ rfl ⟨by rw[HC.out],a5.out⟩;rw[results_cell_tmp rfl];go_simp
     .have aG:(6000:Int)<(log.size:Int)+(rb.size:Int):=by omega
      have HC:Hid (wrC R l log o=(3,log)):=by show _=_;rw[ah.out,if_neg h6]
      clear ah;obtain⟨a6,ak,al,am,an,ao⟩:=a9.out.ans.facts;obtain⟨ae,aA,aB,aC,aD,aE⟩:=a9.out.disk.facts;have a5:Hid (Below _ _ _):=jk (p:=w.heap.size+3) a9.out.bel (by omega) (.string r) (.slice ad na cd) (.string log) (.int .i64 syn);go_wp2;refine bodyPost_ret (v:=.tuple #[.agg #[.string r,.slice ad na cd,.string log,.int .i64 syn],.int .i64 3]) ?_ rfl ⟨by rw[HC.out],a5.out⟩;rw[results_cell_tmp rfl];go_simp
    .have aO:apC R l o=3:=by rw[hc]at a4 ⊢;split at a4;exact absurd rfl a4;rename_i q;rw[if_neg q]
     have HC:Hid (wrC R l log o=(3,log)):=by show _=_;unfold wrC;rw[aO,if_neg (by decide)]
     have av:Hid (decide (apC R l o=0)=false):=decide_eq_false a4;clear hfit a7 af au hc hput aO a4 ap aq;go_enter func37,ntmps37;go_upto_region 1 with fail
     rw[<- HW.out];clear HW;go_wp2_with fail;refine LK.mono ?_;rintro e w1 ⟨rfl,b1⟩;have a0:Hid (Hw7 w w1 r (.slice ad na cd) log syn (.slice va R.es.length vc) R 1 o):=HH.out.below b1;obtain⟨aa,o0,o1,o2⟩:=a0.out.dob.facts;have ab:=AT w1 a0.out.bel;clear LK b1 AT;go_wp2_with fail;refine ab.mono ?_;rintro e w2 ⟨rfl,b2⟩;have a1:Hid (Hw7 w w2 r (.slice ad na cd) log syn (.slice va R.es.length vc) R 1 o):=a0.out.below b2;obtain⟨aa,o0,o1,o2⟩:=a1.out.dob.facts;obtain⟨aK,u0,u1,u2⟩:=a1.out.rul.facts;have AP:=ai.out w2 a1.out.bel a1.out.ents;rw[av.out]at AP;clear ab b2 ai;go_wp2_with fail;refine AP.mono ?_;rintro e w3 ⟨v3,rfl,r3,b3⟩;have ag:Hid (Hw7 w w3 r (.slice ad na cd) log syn (.slice va R.es.length vc) R 1 o):=a1.out.below b3;clear AP r3 b3;obtain⟨a6,ak,al,am,an,ao⟩:=ag.out.ans.facts;obtain⟨ae,aA,aB,aC,aD,aE⟩:=ag.out.disk.facts
     have a5:Hid (Below _ _ _):=jk (p:=w.heap.size+3) ag.out.bel (by omega) (.string r) (.slice ad na cd) (.string log) (.int .i64 syn);go_wp2;refine bodyPost_ret (v:=.tuple #[.agg #[.string r,.slice ad na cd,.string log,.int .i64 syn],.int .i64 3]) ?_ rfl ⟨by rw[HC.out],a5.out⟩;rw[results_cell_tmp rfl];go_simp
end Go.Proofs.YtjbmgghehdemdaaGreatDoor
