/- Proved: for all drawn bytes code, of whatever length, what the law FnSynced asks holds (a crash of a drawn disk leaves what the first records tell, a beginning of its log that is good, and what was synced stays), so it returns true and leaves the input as it was; the tables, the errors and the handle of the type error are as the program lays them, the pinned table as the form has it. -/
import Derived.Test.YtjbmgghehdemdaaGreatDoorMS41
import Derived.LaidHandle
import Derived.Lay
import Derived.MakeChecks
import Derived.Test.YtjbmgghehdemdaaGreatDoorCards
import Derived.Test.YtjbmgghehdemdaaGreatDoorTie
import Derived.Stop.Joined
import Derived.ChangeOld
namespace Go.Proofs.YtjbmgghehdemdaaGreatDoor
set_option maxRecDepth 100000
set_option maxHeartbeats 16000000
open Go.ChangeShapes Go.WideShapes Go.ChangeAt Go.WideMaps Go.WideElems Go.RowKit
theorem Uw : "*" ++ "errors.errorString" = "*errors.errorString":=by decide
theorem aa8 (u:TypeId) (h:Tryz.prog.typeName? 3 u=some "*errors.errorString"):u=298 :=
 typeName_ptr_named (nm := "errors.errorString") (by rw[Uw];kernel_rfl) (by kernel_rfl) (by decide) u (by rw[Uw];exact h)
theorem O9:Tryz.prog.cellsOf 316=1:=by kernel_rfl
theorem U5:Tryz.prog.cellsOf 9=1:=by kernel_rfl
theorem Bi:Tryz.prog.globalNamed "loop.example/g00158/impl.errPageLacks" = some 6:=by kernel_rfl
theorem Jq:(Tryz.prog.globals[6]?).map (·.type)=some 73:=by kernel_rfl
theorem Fa {W:World} {rest:List (String × DataW Unit)}(h:laidMet Tryz.prog (("loop.example/g00158/impl.errPageLacks", Rows.laid_loop_example_g00158_impl_errPageLacks)::rest) W):∃ pb:Addr,W.cell? ⟨6,0,none⟩=some (.iface 298 (.pointer (some pb))):=by
 obtain⟨a,s,hv,_,_,_⟩:=laid_sentinel h Bi Jq Tryz.underlying73 aa8 Tryz.underlying298 Tryz.underlying316 rfl rfl Tryz.underlying9 O9 U5;exact⟨a,by simpa using World.var?_cell Bi hv 0⟩
theorem aj1:Tryz.prog.globalNamed "loop.example/g00158/impl.errBad" = some 0:=by kernel_rfl
theorem a60:(Tryz.prog.globals[0]?).map (·.type)=some 73:=by kernel_rfl
theorem a45:Tryz.prog.globalNamed "loop.example/g00158/impl.errLong" = some 1:=by kernel_rfl
theorem Wx:(Tryz.prog.globals[1]?).map (·.type)=some 73:=by kernel_rfl
theorem a44:Tryz.prog.globalNamed "loop.example/g00158/impl.errFull" = some 2:=by kernel_rfl
theorem Ww:(Tryz.prog.globals[2]?).map (·.type)=some 73:=by kernel_rfl
theorem a46:Tryz.prog.globalNamed "loop.example/g00158/impl.errNone" = some 3:=by kernel_rfl
theorem Wy:(Tryz.prog.globals[3]?).map (·.type)=some 73:=by kernel_rfl
theorem Z7 {W:World} {rest:List (String × DataW Unit)}(h:laidMet Tryz.prog (("loop.example/g00158/impl.errBad", Rows.laid_loop_example_g00158_impl_errBad)::("loop.example/g00158/impl.errLong", Rows.laid_loop_example_g00158_impl_errLong)::("loop.example/g00158/impl.errFull", Rows.laid_loop_example_g00158_impl_errFull)::("loop.example/g00158/impl.errNone", Rows.laid_loop_example_g00158_impl_errNone)::rest) W):∃ pb pl pf pn:Addr,Es7 W pb pl pf pn:=by
 obtain⟨a0,a1,a2,a3,c0,c1,c2,c3,b0,b1,b2,b3,n1,n2,n3,n4,n5,n6⟩:=a72 h aj1 a60 a45 Wx a44 Ww a46 Wy Tryz.underlying73 aa8 Tryz.underlying298 Tryz.underlying316 rfl rfl Tryz.underlying9 O9 U5;exact⟨a0,a1,a2,a3,⟨c0,c1,c2,c3⟩,b0,b1,b2,b3,n1,n2,n3,n4,n5,n6⟩
theorem bh6:Tryz.prog.globalNamed "errors.errorType" = some 4:=by kernel_rfl
theorem bf5:(Tryz.prog.cutTypes.find? (·.1 == "internal/reflectlite.rtype")).map (·.2)=some 191:=by kernel_rfl
theorem b62:((List.range 328).filter fun t=>Tryz.prog.rowNamed t [101,114,114,111,114])=[73]:=by kernel_rfl
theorem ax4:Tryz.prog.types.size=328:=by kernel_rfl
theorem a34:typeHandle Tryz.prog 73=.pointer (some ⟨12,73,none⟩):=by kernel_rfl
theorem az1 {W:World}(h:handlesMet Tryz.prog [("errors.errorType", Rows.laid_errors_errorType)] W):wy W:=by
 obtain⟨name,u,ty,e1,e2,e3,e4,e5⟩:=h _ (List.mem_singleton.2 rfl);have en:name=[101,114,114,111,114]:=(Option.some.inj e1).symm;subst en;obtain rfl:=Option.some.inj (bf5.symm.trans e2);have hm:ty ∈ (List.range 328).filter fun t=>Tryz.prog.rowNamed t [101,114,114,111,114]:=List.mem_filter.2 ⟨List.mem_range.2 (by rw[<- ax4];exact e3),e4⟩
 rw[b62]at hm;obtain rfl:=List.mem_singleton.1 hm;rw[a34]at e5;show _=_
 simpa using World.var?_cell bh6 e5 0
noncomputable def at7 (os:Os):World :=
 let w0:=World.holding Tryz.prog os ⟨#[],#[],[]⟩
 { w0 with heap:=w0.heap.modify 4 fun
   | .cells _ t frozen=>.cells #[.iface 191 (.agg #[.pointer (some ⟨12,73,none⟩)])] t frozen
   | o=>o }
noncomputable def yt (os:Os):World:=(at7 os).layVars Tryz.prog Rows.fnPutRow.laid
theorem bf4 (os:Os):(yt os).os=os:=(World.layVars_os _ _ _).trans rfl
theorem b61 (os:Os) (args:Array Value):laidMetH Tryz.prog Rows.fnSyncedRow.laid ((yt os).forCall (fun _ _=>0) ⟨#[],args,[]⟩).memory:=by
 have e1:(Rows.fnPutRow.laid.filter fun x=>(Rows.fnPutRow.laid.map (·.1)).contains x.1)=Rows.fnPutRow.laid:=List.filter_eq_self.2 fun x hx=>List.contains_iff_mem.2 (List.mem_map.2 ⟨x,hx,rfl⟩)
 have e2:(Rows.fnPutRow.laid.filter fun x=>!(Rows.fnPutRow.laid.map (·.1)).contains x.1)=[]:=List.filter_eq_nil_iff.2 fun x hx=>by rw[List.contains_iff_mem.2 (List.mem_map.2 ⟨x,hx,rfl⟩)];simp
 have h:laidMet Tryz.prog Rows.fnPutRow.laid (yt os):=laidMet_layVars (w0:=at7 os) (Rows.fnPutRow.laid.map (·.1)) [] (by rw[e1];rfl) (by rw[e1];kernel_rfl) (by rw[e1];kernel_rfl) (by rw[e2];exact LaidIn.none);have h2:laidMetH Tryz.prog Rows.fnSyncedRow.laid (yt os):=laidMetH_of_parts h (by kernel_rfl);exact h2.of_heap (by simp[World.memory,World.forCall,Input.heap])
theorem Ov (a0:Option Addr) (len0 cap0:Nat) (z0:List Int) (w:World) (w0:V5 .u8 w a0 len0 cap0 z0){ty:TypeId} {pv:Value} {pb pl pf pn:Addr}(hE:ql w ty pv pb pl pf pn) (hS:Es7 w pb pl pf pn) (hT:wy w) :
  Calls Tryz.prog 4 #[.slice a0 len0 cap0] w fun e w'=>e=.returned (.bool true)/\Below w.heap.size w w':=by
 have hmx:len0<=9223372036854775807:=by
  rcases w0 with ⟨_,rfl,_,_⟩|⟨_,_,h1,h2,_⟩
  .omega
  .unfold maxLen at h2;omega
 by_cases hn:len0<=1048576
 .exact Tr w a0 len0 cap0 hn (aw2 w0) hE hS hT
 .exact Tq w a0 len0 cap0 (by omega) hmx
theorem Q4:ownKnob Tryz.prog.godebug=none:=by kernel_rfl
theorem z7:laidOutB Tryz.prog=true:=by kernel_rfl
set_option linter.unusedVariables false in
theorem Fy (H:Type) (enc:TypeId × Value->H) (W:World) (base:Nat) (args:Array Value) (ds gs:List (DataW H)) (before:List MemPlace)
  (hval0:∀ (j:Nat) t v,Tryz.f4.params[j]? = some t->args[j]? = some v->Value.okWide Tryz.prog W .any base t v)
  (hW:DataW.Whole enc Tryz.prog Tryz.f4.params.toList Rows.fnSyncedSpec.vars false W args.toList ds gs before) (hL:laidMetH Tryz.prog Rows.fnSyncedRow.laid W) :
  Calls Tryz.prog 4 args W fun e W'=>∃ v,e=.returned v/\Rows.fnSyncedSpec.post enc Tryz.prog Tryz.f4 false true false false W args v W':=by
 have hval:∀ (j:Nat) t v,Tryz.f4.params[j]? = some t->args[j]? = some v->Value.okWide Tryz.prog W .any base t v:=hval0
 have hW':=hW;obtain⟨p,q,hA0,hV,rfl,hfz,hnd⟩:=hW;have hA:DataW.TrodAll enc Tryz.prog W 0 (fun _=>true) true Tryz.f4.params.toList args.toList ds p:=hA0;rw[Tryz.params4]at hA hval;obtain⟨v0,vs0,d0,ds0,p0,q0,hargs,rfl,rfl,h0,r0⟩:=trodAll_cons hA;obtain⟨rfl,rfl,rfl⟩:=trodAll_nil r0;obtain rfl:args=#[v0]:=by cases args;simp_all
 obtain⟨g1,g2,g3,g4,g5,g6,g7,g8,rfl⟩:∃ g1 g2 g3 g4 g5 g6 g7 g8,gs=[g1,g2,g3,g4,g5,g6,g7,g8]:=by
  have hg:=Fb hV;match gs,hg with
  | [x1,x2,x3,x4,x5,x6,x7,x8],_=>exact⟨x1,x2,x3,x4,x5,x6,x7,x8,rfl⟩
 obtain⟨a0,len0,cap0,rfl⟩:=okWide_slice Tryz.underlying22 (hval 0 22 v0 rfl rfl);have k0:=h0;have lt0:∀ x ∈ p0,x.block<W.heap.size:=by obtain⟨m,hm⟩:=k0;exact DataW.trod_lt m _ _ _ hm
 obtain⟨z0,w0⟩:∃ zs,V5 .u8 W a0 len0 cap0 zs:=by
  obtain⟨fuel,hf⟩:=h0;rcases open_ints Tryz.underlying22 Tryz.underlying5 (by kernel_rfl) hf with ⟨hcs,_⟩|⟨x,l,c,zs,hcs,_,hl,hm,hz,_,hcell,hwz⟩
  .simp[Value.cells]at hcs
   obtain⟨rfl,rfl,rfl⟩:=hcs;exact⟨[],.inl ⟨rfl,rfl,rfl,rfl⟩⟩
  .simp[Value.cells]at hcs
   obtain⟨rfl,rfl,rfl⟩:=hcs;exact⟨zs,.inr ⟨_,rfl,hl,hm,by simpa using hz,hcell,hwz⟩⟩
 have hL1:laidMet Tryz.prog Rows.fnPutRow.laid W/\handlesMet Tryz.prog [("errors.errorType", Rows.laid_errors_errorType)] W:=hL;have hL2:=hL1.1;have hT:=az1 hL1.2;have t_0:=Xo (laidMet.tail hL2);have t_1:=ag7 (laidMet.tail (laidMet.tail hL2));have t_2:=an3 (laidMet.tail (laidMet.tail (laidMet.tail hL2)));obtain⟨p3,t_3⟩:=Fa (laidMet.tail (laidMet.tail (laidMet.tail (laidMet.tail hL2))));obtain⟨p4,p5,p6,p7,hS⟩:=Z7 (laidMet.tail (laidMet.tail (laidMet.tail (laidMet.tail (laidMet.tail hL2)))));have hE:ql W 298 (.pointer (some p3)) p4 p5 p6 p7:=⟨⟨t_0,t_1,t_2⟩,t_3,hS.ev⟩;clear hA0 hval0;refine (Ov a0 len0 cap0 z0 W w0 hE hS hT).mono fun e W' ⟨he,bel⟩=>?_
 subst he;exact⟨_,rfl,_,_,_,[],_,q,hW',trodAll_mk1 (shut_bool Tryz.underlying4 _),(trodAll_cons_mk (Below.trod z7 (by kernel_rfl) (of_decide_eq_true (by kernel_rfl)) k0 bel lt0) trodAll_mk0),bel.trodVars z7 (by kernel_rfl) hV,bel.frame _,fun h=>by cases h⟩
theorem Jg (os:Os) (started:os.Started) (H:Type) (enc:TypeId × Value->H) :
  ReturnsInHanded {} Tryz.checked os 4 .any (fun w args=>(Rows.fnSyncedSpec.pre enc Tryz.prog Tryz.f4 [] false w args/\laidMetH Tryz.prog Rows.fnSyncedRow.laid w)/\sizedMet enc Tryz.prog Tryz.f4 (OpenSpec.ofChange Rows.fnSyncedSpec) false w args)
   (Rows.fnSyncedSpec.post enc Tryz.prog Tryz.f4 false true false false):=by
 refine returnsInHanded_of_change_and (C:=Tryz.checked) (X:=fun w _=>laidMetH Tryz.prog Rows.fnSyncedRow.laid w) (fun _ _ _ hh h=>h.of_heap hh) Q4 started (by kernel_rfl) Tryz.func4
  (ChangeSpec.witness_shaped (enc:=enc) (C:=Tryz.checked) (os:=os) (X:=fun w _=>laidMetH Tryz.prog Rows.fnSyncedRow.laid w) false (yt os) #[.slice none 0 0] 8 (bf4 os) (World.shaped_of_ZipB (by kernel_rfl) (by kernel_rfl)) (by kernel_rfl) (by kernel_rfl) (by kernel_rfl) (b61 os _)) ?_
 intro W base args ds gs before hval0 hW _ _ hL _;exact Fy H enc W base args ds gs before hval0 hW hL
theorem Mv:Rows.FnSyncedSaid :=
 OpenClaim.holds_of_wide 4 Tryz.f4 rfl rfl rfl rfl rfl rfl rfl ⟨rfl,rfl,rfl,rfl,rfl⟩ rfl rfl rfl rfl rfl (by kernel_rfl) Tryz.func4 (by kernel_rfl)
  (of_decide_eq_true (by kernel_rfl)) (by unfold Func.isWrapper;first|(rw[if_pos (by decide +kernel)];kernel_rfl)|(rw[if_neg (by decide +kernel)];exact⟨rfl,rfl⟩))
  (fun os started H enc _=>Jg os started H enc)
theorem Kv (f:FuncId) (fn:Func) (hf:Tryz.pinned.checked.prog.funcNamed "loop.example/g00158/laws.FnSynced" = some f) (hfn:Tryz.pinned.checked.prog.funcs[f]? = some fn) :
  ∀ (j:Nat) t,fn.params[j]? = some t->Tryz.pinned.checked.prog.wantsStandIn t=false:=by
 obtain rfl:f=4:=Option.some.inj ((show Tryz.prog.funcNamed "loop.example/g00158/laws.FnSynced" = some 4 by kernel_rfl).symm.trans hf) |>.symm;obtain rfl:fn=Tryz.f4:=(Option.some.inj (Tryz.func4.symm.trans hfn)).symm;intro j t ht;rw[Tryz.params4]at ht;obtain rfl:t=22:=by simpa using Array.mem_of_getElem? ht
 exact (show Tryz.prog.wantsStandIn 22=false by kernel_rfl)
theorem fnSynced_card:Rows.FnSyncedCardSaid :=
 Claim7.holds_tied_plain_at .later [] _ _ _ _ Mv (fun _ h=>by cases h) (by kernel_rfl) (fun _ h=>by cases h) fnSynced_row_tie rfl ⟨rfl,rfl⟩ (by kernel_rfl) rfl (fun f fn hf hfn=>⟨by kernel_rfl,Kv f fn hf hfn⟩) (by kernel_rfl)
#print axioms fnSynced_card
end Go.Proofs.YtjbmgghehdemdaaGreatDoor
