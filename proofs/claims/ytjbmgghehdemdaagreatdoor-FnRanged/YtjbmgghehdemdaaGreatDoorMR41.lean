/- Proved: for all drawn bytes code, of whatever length, what the law FnRanged asks holds (a range of a drawn disk tells the rows from its beginning on to ahead of its end, the specification likewise, and a prefix tells rows that begin so), so it returns true and leaves the input as it was; the tables and the errors are as the program lays them, the pinned table as the form has it. -/
import Derived.Test.YtjbmgghehdemdaaGreatDoorMR40
import Derived.Lay
import Derived.MakeChecks
import Derived.Test.YtjbmgghehdemdaaGreatDoorCards
import Derived.Test.YtjbmgghehdemdaaGreatDoorTie
import Derived.Stop.Joined
import Derived.ChangeOld
namespace Go.Proofs.YtjbmgghehdemdaaGreatDoor
set_option maxRecDepth 100000
set_option maxHeartbeats 16000000
open Go.ChangeShapes Go.WideShapes Go.ChangeAt Go.WideMaps Go.WideElems Go.RowKit
theorem Te : "*" ++ "errors.errorString" = "*errors.errorString":=by decide
theorem Cz (u:TypeId) (h:Tryz.prog.typeName? 3 u=some "*errors.errorString"):u=298 :=
 typeName_ptr_named (nm := "errors.errorString") (by rw[Te];kernel_rfl) (by kernel_rfl) (by decide) u (by rw[Te];exact h)
theorem wz:Tryz.prog.cellsOf 316=1:=by kernel_rfl
theorem zp:Tryz.prog.cellsOf 9=1:=by kernel_rfl
theorem zr:Tryz.prog.globalNamed "loop.example/g00158/impl.errPageLacks" = some 6:=by kernel_rfl
theorem Hk:(Tryz.prog.globals[6]?).map (·.type)=some 73:=by kernel_rfl
theorem Dd {W:World} {rest:List (String × DataW Unit)}(h:laidMet Tryz.prog (("loop.example/g00158/impl.errPageLacks", Rows.laid_loop_example_g00158_impl_errPageLacks)::rest) W):∃ pb:Addr,W.cell? ⟨6,0,none⟩=some (.iface 298 (.pointer (some pb))):=by
 obtain⟨a,s,hv,_,_,_⟩:=laid_sentinel h zr Hk Tryz.underlying73 Cz Tryz.underlying298 Tryz.underlying316 rfl rfl Tryz.underlying9 wz zp;exact⟨a,by simpa using World.var?_cell zr hv 0⟩
theorem N7:Tryz.prog.globalNamed "loop.example/g00158/impl.errBad" = some 0:=by kernel_rfl
theorem Zh:(Tryz.prog.globals[0]?).map (·.type)=some 73:=by kernel_rfl
theorem Pn {W:World} {rest:List (String × DataW Unit)}(h:laidMet Tryz.prog (("loop.example/g00158/impl.errBad", Rows.laid_loop_example_g00158_impl_errBad)::rest) W):∃ pb:Addr,W.cell? ⟨0,0,none⟩=some (.iface 298 (.pointer (some pb))):=by
 obtain⟨a,s,hv,_,_,_⟩:=laid_sentinel h N7 Zh Tryz.underlying73 Cz Tryz.underlying298 Tryz.underlying316 rfl rfl Tryz.underlying9 wz zp;exact⟨a,by simpa using World.var?_cell N7 hv 0⟩
theorem K6:Tryz.prog.globalNamed "loop.example/g00158/impl.errLong" = some 1:=by kernel_rfl
theorem Vd:(Tryz.prog.globals[1]?).map (·.type)=some 73:=by kernel_rfl
theorem Ll {W:World} {rest:List (String × DataW Unit)}(h:laidMet Tryz.prog (("loop.example/g00158/impl.errLong", Rows.laid_loop_example_g00158_impl_errLong)::rest) W):∃ pb:Addr,W.cell? ⟨1,0,none⟩=some (.iface 298 (.pointer (some pb))):=by
 obtain⟨a,s,hv,_,_,_⟩:=laid_sentinel h K6 Vd Tryz.underlying73 Cz Tryz.underlying298 Tryz.underlying316 rfl rfl Tryz.underlying9 wz zp;exact⟨a,by simpa using World.var?_cell K6 hv 0⟩
theorem K5:Tryz.prog.globalNamed "loop.example/g00158/impl.errFull" = some 2:=by kernel_rfl
theorem Vc:(Tryz.prog.globals[2]?).map (·.type)=some 73:=by kernel_rfl
theorem Lk {W:World} {rest:List (String × DataW Unit)}(h:laidMet Tryz.prog (("loop.example/g00158/impl.errFull", Rows.laid_loop_example_g00158_impl_errFull)::rest) W):∃ pb:Addr,W.cell? ⟨2,0,none⟩=some (.iface 298 (.pointer (some pb))):=by
 obtain⟨a,s,hv,_,_,_⟩:=laid_sentinel h K5 Vc Tryz.underlying73 Cz Tryz.underlying298 Tryz.underlying316 rfl rfl Tryz.underlying9 wz zp;exact⟨a,by simpa using World.var?_cell K5 hv 0⟩
theorem K7:Tryz.prog.globalNamed "loop.example/g00158/impl.errNone" = some 3:=by kernel_rfl
theorem Ve:(Tryz.prog.globals[3]?).map (·.type)=some 73:=by kernel_rfl
theorem Lm {W:World} {rest:List (String × DataW Unit)}(h:laidMet Tryz.prog (("loop.example/g00158/impl.errNone", Rows.laid_loop_example_g00158_impl_errNone)::rest) W):∃ pb:Addr,W.cell? ⟨3,0,none⟩=some (.iface 298 (.pointer (some pb))):=by
 obtain⟨a,s,hv,_,_,_⟩:=laid_sentinel h K7 Ve Tryz.underlying73 Cz Tryz.underlying298 Tryz.underlying316 rfl rfl Tryz.underlying9 wz zp;exact⟨a,by simpa using World.var?_cell K7 hv 0⟩
theorem Mz (a0:Option Addr) (len0 cap0:Nat) (z0:List Int) (w:World) (w0:Tm .u8 w a0 len0 cap0 z0){ty:TypeId} {pv:Value} {pb pl pf pn:Addr}(hE:qt w ty pv pb pl pf pn) :
  Calls Tryz.prog 5 #[.slice a0 len0 cap0] w fun e w'=>e=.returned (.bool true)/\Below w.heap.size w w':=by
 have hmx:len0<=9223372036854775807:=by
  rcases w0 with ⟨_,rfl,_,_⟩|⟨_,_,h1,h2,_⟩
  .omega
  .unfold maxLen at h2;omega
 by_cases hn:len0<=1048576
 .exact Rl w a0 len0 cap0 hn (am0 w0) hE
 .exact Rk w a0 len0 cap0 (by omega) hmx
theorem Od:ownKnob Tryz.prog.godebug=none:=by kernel_rfl
theorem xo:laidOutB Tryz.prog=true:=by kernel_rfl
set_option linter.unusedVariables false in
theorem E6 (H:Type) (enc:TypeId × Value->H) (W:World) (base:Nat) (args:Array Value) (ds gs:List (DataW H)) (before:List MemPlace)
  (hval0:∀ (j:Nat) t v,Tryz.f5.params[j]? = some t->args[j]? = some v->Value.okWide Tryz.prog W .any base t v)
  (hW:DataW.Whole enc Tryz.prog Tryz.f5.params.toList Rows.fnRangedSpec.vars false W args.toList ds gs before) (hL:laidMetH Tryz.prog Rows.fnRangedRow.laid W) :
  Calls Tryz.prog 5 args W fun e W'=>∃ v,e=.returned v/\Rows.fnRangedSpec.post enc Tryz.prog Tryz.f5 false true false false W args v W':=by
 have hval:∀ (j:Nat) t v,Tryz.f5.params[j]? = some t->args[j]? = some v->Value.okWide Tryz.prog W .any base t v:=hval0
 have hW':=hW;obtain⟨p,q,hA0,hV,rfl,hfz,hnd⟩:=hW;have hA:DataW.TrodAll enc Tryz.prog W 0 (fun _=>true) true Tryz.f5.params.toList args.toList ds p:=hA0;rw[Tryz.params5]at hA hval;obtain⟨v0,vs0,d0,ds0,p0,q0,hargs,rfl,rfl,h0,r0⟩:=trodAll_cons hA;obtain⟨rfl,rfl,rfl⟩:=trodAll_nil r0;obtain rfl:args=#[v0]:=by cases args;simp_all
 obtain⟨g1,g2,g3,g4,g5,g6,g7,g8,rfl⟩:∃ g1 g2 g3 g4 g5 g6 g7 g8,gs=[g1,g2,g3,g4,g5,g6,g7,g8]:=by
  have hg:=De hV;match gs,hg with
  | [x1,x2,x3,x4,x5,x6,x7,x8],_=>exact⟨x1,x2,x3,x4,x5,x6,x7,x8,rfl⟩
 obtain⟨a0,len0,cap0,rfl⟩:=okWide_slice Tryz.underlying22 (hval 0 22 v0 rfl rfl);have k0:=h0;have lt0:∀ x ∈ p0,x.block<W.heap.size:=by obtain⟨m,hm⟩:=k0;exact DataW.trod_lt m _ _ _ hm
 obtain⟨z0,w0⟩:∃ zs,Tm .u8 W a0 len0 cap0 zs:=by
  obtain⟨fuel,hf⟩:=h0;rcases open_ints Tryz.underlying22 Tryz.underlying5 (by kernel_rfl) hf with ⟨hcs,_⟩|⟨x,l,c,zs,hcs,_,hl,hm,hz,_,hcell,hwz⟩
  .simp[Value.cells]at hcs
   obtain⟨rfl,rfl,rfl⟩:=hcs;exact⟨[],.inl ⟨rfl,rfl,rfl,rfl⟩⟩
  .simp[Value.cells]at hcs
   obtain⟨rfl,rfl,rfl⟩:=hcs;exact⟨zs,.inr ⟨_,rfl,hl,hm,by simpa using hz,hcell,hwz⟩⟩
 have hL2:laidMet Tryz.prog Rows.fnRangedRow.laid W:=hL;have t_0:=Vv (laidMet.tail hL2);have t_1:=a83 (laidMet.tail (laidMet.tail hL2));have t_2:=ae0 (laidMet.tail (laidMet.tail (laidMet.tail hL2)));obtain⟨p3,t_3⟩:=Dd (laidMet.tail (laidMet.tail (laidMet.tail (laidMet.tail hL2))));obtain⟨p4,t_4⟩:=Pn (laidMet.tail (laidMet.tail (laidMet.tail (laidMet.tail (laidMet.tail hL2)))));obtain⟨p5,t_5⟩:=Ll (laidMet.tail (laidMet.tail (laidMet.tail (laidMet.tail (laidMet.tail (laidMet.tail hL2))))));obtain⟨p6,t_6⟩:=Lk (laidMet.tail (laidMet.tail (laidMet.tail (laidMet.tail (laidMet.tail (laidMet.tail (laidMet.tail hL2)))))));obtain⟨p7,t_7⟩:=Lm (laidMet.tail (laidMet.tail (laidMet.tail (laidMet.tail (laidMet.tail (laidMet.tail (laidMet.tail (laidMet.tail hL2))))))))
 have hE:qt W 298 (.pointer (some p3)) p4 p5 p6 p7:=⟨⟨t_0,t_1,t_2⟩,t_3,⟨t_4,t_5,t_6,t_7⟩⟩;clear hA0 hval0;refine (Mz a0 len0 cap0 z0 W w0 hE).mono fun e W' ⟨he,bel⟩=>?_
 subst he;exact⟨_,rfl,_,_,_,[],_,q,hW',trodAll_mk1 (shut_bool Tryz.underlying4 _),(trodAll_cons_mk (Below.trod xo (by kernel_rfl) (of_decide_eq_true (by kernel_rfl)) k0 bel lt0) trodAll_mk0),bel.trodVars xo (by kernel_rfl) hV,bel.frame _,fun h=>by cases h⟩
theorem Hc (os:Os) (started:os.Started) (H:Type) (enc:TypeId × Value->H) :
  ReturnsInHanded {} Tryz.checked os 5 .any (fun w args=>(Rows.fnRangedSpec.pre enc Tryz.prog Tryz.f5 [] false w args/\laidMetH Tryz.prog Rows.fnRangedRow.laid w)/\sizedMet enc Tryz.prog Tryz.f5 (OpenSpec.ofChange Rows.fnRangedSpec) false w args)
   (Rows.fnRangedSpec.post enc Tryz.prog Tryz.f5 false true false false):=by
 refine returnsInHanded_of_change_and (C:=Tryz.checked) (X:=fun w _=>laidMetH Tryz.prog Rows.fnRangedRow.laid w) (fun _ _ _ hh h=>h.of_heap hh) Od started (by kernel_rfl) Tryz.func5
  (ChangeSpec.witness_shaped (enc:=enc) (C:=Tryz.checked) (os:=os) (X:=fun w _=>laidMetH Tryz.prog Rows.fnRangedRow.laid w) false (World.laidAll Tryz.prog os Rows.fnRangedRow.laid) #[.slice none 0 0] 8 (World.laidAll_os _ _ _) (World.shaped_of_ZipB (by kernel_rfl) (by kernel_rfl)) (by kernel_rfl) (by kernel_rfl) (by kernel_rfl) (by rw[MakeChecks.laidMetH_plain _ _ _ (by kernel_rfl)];exact laidMet_laidAll _ (by kernel_rfl) (by kernel_rfl))) ?_
 intro W base args ds gs before hval0 hW _ _ hL _;exact E6 H enc W base args ds gs before hval0 hW hL
theorem L4:Rows.FnRangedSaid :=
 OpenClaim.holds_of_wide 5 Tryz.f5 rfl rfl rfl rfl rfl rfl rfl ⟨rfl,rfl,rfl,rfl,rfl⟩ rfl rfl rfl rfl rfl (by kernel_rfl) Tryz.func5 (by kernel_rfl)
  (of_decide_eq_true (by kernel_rfl)) (by unfold Func.isWrapper;first|(rw[if_pos (by decide +kernel)];kernel_rfl)|(rw[if_neg (by decide +kernel)];exact⟨rfl,rfl⟩))
  (fun os started H enc _=>Hc os started H enc)
theorem It (f:FuncId) (fn:Func) (hf:Tryz.pinned.checked.prog.funcNamed "loop.example/g00158/laws.FnRanged" = some f) (hfn:Tryz.pinned.checked.prog.funcs[f]? = some fn) :
  ∀ (j:Nat) t,fn.params[j]? = some t->Tryz.pinned.checked.prog.wantsStandIn t=false:=by
 obtain rfl:f=5:=Option.some.inj ((show Tryz.prog.funcNamed "loop.example/g00158/laws.FnRanged" = some 5 by kernel_rfl).symm.trans hf) |>.symm;obtain rfl:fn=Tryz.f5:=(Option.some.inj (Tryz.func5.symm.trans hfn)).symm;intro j t ht;rw[Tryz.params5]at ht;obtain rfl:t=22:=by simpa using Array.mem_of_getElem? ht
 exact (show Tryz.prog.wantsStandIn 22=false by kernel_rfl)
theorem fnRanged_card:Rows.FnRangedCardSaid :=
 Claim7.holds_tied_plain_at .later [] _ _ _ _ L4 (fun _ h=>by cases h) (by kernel_rfl) (fun _ h=>by cases h) fnRanged_row_tie rfl ⟨rfl,rfl⟩ (by kernel_rfl) rfl (fun f fn hf hfn=>⟨by kernel_rfl,It f fn hf hfn⟩) (by kernel_rfl)
#print axioms fnRanged_card
end Go.Proofs.YtjbmgghehdemdaaGreatDoor
