/- Proved: for all drawn bytes code, of whatever length, what the law FnPut asks holds (what is put into a drawn disk is told by the spelling that was put last, however it is asked, what is dropped is none such, and rows are in the order of readers), so it returns true and leaves the input as it was; the tables and the errors are as the program lays them, the pinned table as the form has it. -/
import Derived.Test.YtjbmgghehdemdaaGreatDoorMP39
import Derived.Lay
import Derived.MakeChecks
import Derived.Test.YtjbmgghehdemdaaGreatDoorCards
import Derived.Test.YtjbmgghehdemdaaGreatDoorTie
import Derived.Stop.Joined
import Derived.ChangeOld
namespace Go.Proofs.YtjbmgghehdemdaaGreatDoor
set_option maxRecDepth 100000
set_option maxHeartbeats 16000000
open Go.ChangeShapes Go.WideShapes Go.ChangeAt Go.WideMaps Go.WideElems Go.RowKit
theorem Uu : "*" ++ "errors.errorString" = "*errors.errorString":=by decide
theorem aa0 (u:TypeId) (h:Tryz.prog.typeName? 3 u=some "*errors.errorString"):u=298 :=
 typeName_ptr_named (nm := "errors.errorString") (by rw[Uu];kernel_rfl) (by kernel_rfl) (by decide) u (by rw[Uu];exact h)
theorem Nr:Tryz.prog.cellsOf 316=1:=by kernel_rfl
theorem U3:Tryz.prog.cellsOf 9=1:=by kernel_rfl
theorem Az:Tryz.prog.globalNamed "loop.example/g00158/impl.errPageLacks" = some 6:=by kernel_rfl
theorem Jc:(Tryz.prog.globals[6]?).map (·.type)=some 73:=by kernel_rfl
theorem Ez {W:World} {rest:List (String × DataW Unit)}(h:laidMet Tryz.prog (("loop.example/g00158/impl.errPageLacks", Rows.laid_loop_example_g00158_impl_errPageLacks)::rest) W):∃ pb:Addr,W.cell? ⟨6,0,none⟩=some (.iface 298 (.pointer (some pb))):=by
 obtain⟨a,s,hv,_,_,_⟩:=laid_sentinel h Az Jc Tryz.underlying73 aa0 Tryz.underlying298 Tryz.underlying316 rfl rfl Tryz.underlying9 Nr U3;exact⟨a,by simpa using World.var?_cell Az hv 0⟩
theorem ai5:Tryz.prog.globalNamed "loop.example/g00158/impl.errBad" = some 0:=by kernel_rfl
theorem a44:(Tryz.prog.globals[0]?).map (·.type)=some 73:=by kernel_rfl
theorem a33:Tryz.prog.globalNamed "loop.example/g00158/impl.errLong" = some 1:=by kernel_rfl
theorem Wx:(Tryz.prog.globals[1]?).map (·.type)=some 73:=by kernel_rfl
theorem a32:Tryz.prog.globalNamed "loop.example/g00158/impl.errFull" = some 2:=by kernel_rfl
theorem Ww:(Tryz.prog.globals[2]?).map (·.type)=some 73:=by kernel_rfl
theorem a34:Tryz.prog.globalNamed "loop.example/g00158/impl.errNone" = some 3:=by kernel_rfl
theorem Wy:(Tryz.prog.globals[3]?).map (·.type)=some 73:=by kernel_rfl
theorem Z2 {W:World} {rest:List (String × DataW Unit)}(h:laidMet Tryz.prog (("loop.example/g00158/impl.errBad", Rows.laid_loop_example_g00158_impl_errBad)::("loop.example/g00158/impl.errLong", Rows.laid_loop_example_g00158_impl_errLong)::("loop.example/g00158/impl.errFull", Rows.laid_loop_example_g00158_impl_errFull)::("loop.example/g00158/impl.errNone", Rows.laid_loop_example_g00158_impl_errNone)::rest) W):∃ pb pl pf pn:Addr,Es7 W pb pl pf pn:=by
 obtain⟨a0,a1,a2,a3,c0,c1,c2,c3,b0,b1,b2,b3,n1,n2,n3,n4,n5,n6⟩:=a60 h ai5 a44 a33 Wx a32 Ww a34 Wy Tryz.underlying73 aa0 Tryz.underlying298 Tryz.underlying316 rfl rfl Tryz.underlying9 Nr U3;exact⟨a0,a1,a2,a3,⟨c0,c1,c2,c3⟩,b0,b1,b2,b3,n1,n2,n3,n4,n5,n6⟩
theorem a25 (a0:Option Addr) (len0 cap0:Nat) (z0:List Int) (w:World) (w0:V4 .u8 w a0 len0 cap0 z0){ty:TypeId} {pv:Value} {pb pl pf pn:Addr}(hE:qd w ty pv pb pl pf pn) (hS:Es7 w pb pl pf pn) :
  Calls Tryz.prog 3 #[.slice a0 len0 cap0] w fun e w'=>e=.returned (.bool true)/\Below w.heap.size w w':=by
 have hmx:len0<=9223372036854775807:=by
  rcases w0 with ⟨_,rfl,_,_⟩|⟨_,_,h1,h2,_⟩
  .omega
  .unfold maxLen at h2;omega
 by_cases hn:len0<=1048576
 .exact ao2 w a0 len0 cap0 hn (av4 w0) hE hS
 .exact ao1 w a0 len0 cap0 (by omega) hmx
theorem a83:ownKnob Tryz.prog.godebug=none:=by kernel_rfl
theorem D9:laidOutB Tryz.prog=true:=by kernel_rfl
set_option linter.unusedVariables false in
theorem Kk (H:Type) (enc:TypeId × Value->H) (W:World) (base:Nat) (args:Array Value) (ds gs:List (DataW H)) (before:List MemPlace)
  (hval0:∀ (j:Nat) t v,Tryz.f3.params[j]? = some t->args[j]? = some v->Value.okWide Tryz.prog W .any base t v)
  (hW:DataW.Whole enc Tryz.prog Tryz.f3.params.toList Rows.fnPutSpec.vars false W args.toList ds gs before) (hL:laidMetH Tryz.prog Rows.fnPutRow.laid W) :
  Calls Tryz.prog 3 args W fun e W'=>∃ v,e=.returned v/\Rows.fnPutSpec.post enc Tryz.prog Tryz.f3 false true false false W args v W':=by
 have hval:∀ (j:Nat) t v,Tryz.f3.params[j]? = some t->args[j]? = some v->Value.okWide Tryz.prog W .any base t v:=hval0
 have hW':=hW;obtain⟨p,q,hA0,hV,rfl,hfz,hnd⟩:=hW;have hA:DataW.TrodAll enc Tryz.prog W 0 (fun _=>true) true Tryz.f3.params.toList args.toList ds p:=hA0;rw[Tryz.params3]at hA hval;obtain⟨v0,vs0,d0,ds0,p0,q0,hargs,rfl,rfl,h0,r0⟩:=trodAll_cons hA;obtain⟨rfl,rfl,rfl⟩:=trodAll_nil r0;obtain rfl:args=#[v0]:=by cases args;simp_all
 obtain⟨g1,g2,g3,g4,g5,g6,g7,g8,rfl⟩:∃ g1 g2 g3 g4 g5 g6 g7 g8,gs=[g1,g2,g3,g4,g5,g6,g7,g8]:=by
  have hg:=F4 hV;match gs,hg with
  | [x1,x2,x3,x4,x5,x6,x7,x8],_=>exact⟨x1,x2,x3,x4,x5,x6,x7,x8,rfl⟩
 obtain⟨a0,len0,cap0,rfl⟩:=okWide_slice Tryz.underlying22 (hval 0 22 v0 rfl rfl);have k0:=h0;have lt0:∀ x ∈ p0,x.block<W.heap.size:=by obtain⟨m,hm⟩:=k0;exact DataW.trod_lt m _ _ _ hm
 obtain⟨z0,w0⟩:∃ zs,V4 .u8 W a0 len0 cap0 zs:=by
  obtain⟨fuel,hf⟩:=h0;rcases open_ints Tryz.underlying22 Tryz.underlying5 (by kernel_rfl) hf with ⟨hcs,_⟩|⟨x,l,c,zs,hcs,_,hl,hm,hz,_,hcell,hwz⟩
  .simp[Value.cells]at hcs
   obtain⟨rfl,rfl,rfl⟩:=hcs;exact⟨[],.inl ⟨rfl,rfl,rfl,rfl⟩⟩
  .simp[Value.cells]at hcs
   obtain⟨rfl,rfl,rfl⟩:=hcs;exact⟨zs,.inr ⟨_,rfl,hl,hm,by simpa using hz,hcell,hwz⟩⟩
 have hL2:laidMet Tryz.prog Rows.fnPutRow.laid W:=hL;have t_0:=Xn (laidMet.tail hL2);have t_1:=af6 (laidMet.tail (laidMet.tail hL2));have t_2:=am8 (laidMet.tail (laidMet.tail (laidMet.tail hL2)));obtain⟨p3,t_3⟩:=Ez (laidMet.tail (laidMet.tail (laidMet.tail (laidMet.tail hL2))));obtain⟨p4,p5,p6,p7,hS⟩:=Z2 (laidMet.tail (laidMet.tail (laidMet.tail (laidMet.tail (laidMet.tail hL2)))));have hE:qd W 298 (.pointer (some p3)) p4 p5 p6 p7:=⟨⟨t_0,t_1,t_2⟩,t_3,hS.ev⟩;clear hA0 hval0;refine (a25 a0 len0 cap0 z0 W w0 hE hS).mono fun e W' ⟨he,bel⟩=>?_
 subst he;exact⟨_,rfl,_,_,_,[],_,q,hW',trodAll_mk1 (shut_bool Tryz.underlying4 _),(trodAll_cons_mk (Below.trod D9 (by kernel_rfl) (of_decide_eq_true (by kernel_rfl)) k0 bel lt0) trodAll_mk0),bel.trodVars D9 (by kernel_rfl) hV,bel.frame _,fun h=>by cases h⟩
theorem Of (os:Os) (started:os.Started) (H:Type) (enc:TypeId × Value->H) :
  ReturnsInHanded {} Tryz.checked os 3 .any (fun w args=>(Rows.fnPutSpec.pre enc Tryz.prog Tryz.f3 [] false w args/\laidMetH Tryz.prog Rows.fnPutRow.laid w)/\sizedMet enc Tryz.prog Tryz.f3 (OpenSpec.ofChange Rows.fnPutSpec) false w args)
   (Rows.fnPutSpec.post enc Tryz.prog Tryz.f3 false true false false):=by
 refine returnsInHanded_of_change_and (C:=Tryz.checked) (X:=fun w _=>laidMetH Tryz.prog Rows.fnPutRow.laid w) (fun _ _ _ hh h=>h.of_heap hh) a83 started (by kernel_rfl) Tryz.func3
  (ChangeSpec.witness_shaped (enc:=enc) (C:=Tryz.checked) (os:=os) (X:=fun w _=>laidMetH Tryz.prog Rows.fnPutRow.laid w) false (World.laidAll Tryz.prog os Rows.fnPutRow.laid) #[.slice none 0 0] 8 (World.laidAll_os _ _ _) (World.shaped_of_ZipB (by kernel_rfl) (by kernel_rfl)) (by kernel_rfl) (by kernel_rfl) (by kernel_rfl) (by rw[MakeChecks.laidMetH_plain _ _ _ (by kernel_rfl)];exact laidMet_laidAll _ (by kernel_rfl) (by kernel_rfl))) ?_
 intro W base args ds gs before hval0 hW _ _ hL _;exact Kk H enc W base args ds gs before hval0 hW hL
theorem W5:Rows.FnPutSaid :=
 OpenClaim.holds_of_wide 3 Tryz.f3 rfl rfl rfl rfl rfl rfl rfl ⟨rfl,rfl,rfl,rfl,rfl⟩ rfl rfl rfl rfl rfl (by kernel_rfl) Tryz.func3 (by kernel_rfl)
  (of_decide_eq_true (by kernel_rfl)) (by unfold Func.isWrapper;first|(rw[if_pos (by decide +kernel)];kernel_rfl)|(rw[if_neg (by decide +kernel)];exact⟨rfl,rfl⟩))
  (fun os started H enc _=>Of os started H enc)
theorem Sg (f:FuncId) (fn:Func) (hf:Tryz.pinned.checked.prog.funcNamed "loop.example/g00158/laws.FnPut" = some f) (hfn:Tryz.pinned.checked.prog.funcs[f]? = some fn) :
  ∀ (j:Nat) t,fn.params[j]? = some t->Tryz.pinned.checked.prog.wantsStandIn t=false:=by
 obtain rfl:f=3:=Option.some.inj ((show Tryz.prog.funcNamed "loop.example/g00158/laws.FnPut" = some 3 by kernel_rfl).symm.trans hf) |>.symm;obtain rfl:fn=Tryz.f3:=(Option.some.inj (Tryz.func3.symm.trans hfn)).symm;intro j t ht;rw[Tryz.params3]at ht;obtain rfl:t=22:=by simpa using Array.mem_of_getElem? ht
 exact (show Tryz.prog.wantsStandIn 22=false by kernel_rfl)
theorem fnPut_card:Rows.FnPutCardSaid :=
 Claim7.holds_tied_plain_at .later [] _ _ _ _ W5 (fun _ h=>by cases h) (by kernel_rfl) (fun _ h=>by cases h) fnPut_row_tie rfl ⟨rfl,rfl⟩ (by kernel_rfl) rfl (fun f fn hf hfn=>⟨by kernel_rfl,Sg f fn hf hfn⟩) (by kernel_rfl)
#print axioms fnPut_card
end Go.Proofs.YtjbmgghehdemdaaGreatDoor
