import Derived.Test.YtepokmggbfoakaaGreatDoorT37
set_option maxRecDepth 100000
namespace Go.Proofs.YtepokmggbfoakaaGreatDoor.StreamTakes
open _root_.Go.Proofs.Tryz
open Go.ChangeShapes Go.WideShapes Go.ChangeAt Go.RowKit
theorem MD{K:Nat}(R:fU K)(os:Os)(started:os.Started)(H:Type)(enc:TypeId×Value->H):
 ReturnsInHanded {} checked os 4 .any (fun w args=>(Rows.streamTakesSpec.pre enc prog Tryz.f4 [] false w args/\laidMetH prog Rows.streamTakesRow.laid w)/\sizedMet enc prog Tryz.f4 (OpenSpec.ofChange Rows.streamTakesSpec) false w args) (Rows.streamTakesSpec.post enc prog Tryz.f4 false true false false):=by
 refine returnsInHanded_of_change_and (C:=checked) (X:=fun w _=>laidMetH prog Rows.streamTakesRow.laid w) (fun _ _ _ hh h=>h.of_heap hh) own started (by kernel_rfl) func4
  (ChangeSpec.witness_shaped (enc:=enc) (C:=checked) (os:=os) (X:=fun w _=>laidMetH prog Rows.streamTakesRow.laid w) false (World.doorLaid prog 24 os) #[.string ⟨#[]⟩,.int .i64 0] 8 rfl (World.shaped_of_RefB (by kernel_rfl) (by kernel_rfl)) (by kernel_rfl) (by kernel_rfl) (by kernel_rfl) (I9 os _)) ?_
 intro W base args ds gs before h2 hW _ _ _ _;have h3:∀(j:Nat) t v,Tryz.f4.params[j]? =some t->args[j]? =some v->Value.okWide prog W .any base t v:=h2;have h6:=hW;obtain⟨p,q,h4,hV,rfl,h7,h8⟩:=hW;have hA:DataW.TrodAll enc prog W 0 (fun _=>true) true Tryz.f4.params.toList args.toList ds p:=h4;rw[params4]at hA h3;obtain⟨v0,vs0,d0,ds0,p0,q0,h5,rfl,rfl,h0,r0⟩:=trodAll_cons hA;obtain⟨v1,vs1,d1,ds1,p1,q1,rfl,rfl,rfl,h1,r1⟩:=trodAll_cons r0;obtain⟨rfl,rfl,rfl⟩:=trodAll_nil r1;obtain rfl:args=#[v0,v1]:=by cases args;simp_all
 obtain⟨rfl,rfl⟩:=trodVars_none hV;obtain⟨s0,rfl,rfl,rfl,ws0⟩:=Go.ChangeMaps.open_string underlying9 (h3 0 9 v0 rfl rfl) h0;obtain⟨i1,rfl,rfl,rfl,w1⟩:=open_int underlying3 (h3 1 3 v1 rfl rfl) h1;have b1:=bounds_i64 w1;clear h4 h2;have fin:∀e W',(e=Ending.returned (.bool true)/\Below W.heap.size W W')->∃v,e=Ending.returned v/\Rows.streamTakesSpec.post enc prog Tryz.f4 false true false false W #[.string s0,.int .i64 i1] v W':=by rintro e W' ⟨rfl,hb⟩;exact⟨_,rfl,JA h6 rfl hb (by kernel_rfl) (by kernel_rfl) rfl⟩
 unfold maxLen at ws0;exact(DJ R W s0 i1 (by omega) b1.1 b1.2).mono fin
theorem row{K:Nat}(R:fU K):Rows.streamTakesRow.holds Tryz.pinned (OpenSpec.ofChange Rows.streamTakesSpec):=
 OpenClaim.holds_of_wide 4 Tryz.f4 rfl rfl rfl rfl rfl rfl rfl ⟨rfl,rfl,rfl,rfl,rfl⟩ rfl rfl rfl rfl rfl (by kernel_rfl) func4 (by kernel_rfl)
  (of_decide_eq_true (by kernel_rfl)) (by unfold Func.isWrapper;first|(rw [Ng (by decide +kernel)];kernel_rfl)|(rw [Nf (by decide +kernel)];exact⟨rfl,rfl⟩))
  (fun os started H enc _=>MD R os started H enc)
