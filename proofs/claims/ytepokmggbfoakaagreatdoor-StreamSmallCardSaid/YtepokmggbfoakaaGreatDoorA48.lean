import Derived.Test.YtepokmggbfoakaaGreatDoorA41
set_option maxRecDepth 100000
namespace Go.Proofs.YtepokmggbfoakaaGreatDoor.StreamSmall
open Go.ChangeShapes Go.WideShapes Go.ChangeAt Go.RowKit
theorem nF(R:bp 8192)(os:Os)(started:os.Started)(H:Type)(enc:TypeId×Value→H):
 ReturnsInHanded {} Tryz.checked os 9 .any (fun w args=>(Rows.streamSmallSpec.pre enc Tryz.prog Tryz.f9 [] false w args∧laidMetH Tryz.prog Rows.streamSmallRow.laid w)∧sizedMet enc Tryz.prog Tryz.f9 (OpenSpec.ofChange Rows.streamSmallSpec) false w args) (Rows.streamSmallSpec.post enc Tryz.prog Tryz.f9 false true false false):=by
 refine Ou (C:=Tryz.checked) (X:=fun w _=>laidMetH Tryz.prog Rows.streamSmallRow.laid w) (fun _ _ _ hh h=>h.of_heap hh) own started (by kernel_rfl) Tryz.func9
  (ChangeSpec.witness_shaped (enc:=enc) (C:=Tryz.checked) (os:=os) (X:=fun w _=>laidMetH Tryz.prog Rows.streamSmallRow.laid w) false (World.doorLaid Tryz.prog 24 os) #[.string ⟨#[]⟩] 8 rfl (World.shaped_of_RefB (by kernel_rfl) (by kernel_rfl)) (by kernel_rfl) (by kernel_rfl) (by kernel_rfl) (oE os _)) ?_
 intro W base args ds gs before h1 hW _ _ _ _;have h2:∀(j:Nat) t v,Tryz.f9.params[j]? =some t→args[j]? =some v→Value.okWide Tryz.prog W .any base t v:=h1;have h5:=hW;obtain⟨p,q,h3,hV,rfl,h6,h7⟩:=hW;have hA:DataW.TrodAll enc Tryz.prog W 0 (fun _=>true) true Tryz.f9.params.toList args.toList ds p:=h3;rw[Tryz.params9]at hA h2;obtain⟨v0,vs0,d0,ds0,p0,q0,h4,rfl,rfl,h0,r0⟩:=trodAll_cons hA;obtain⟨rfl,rfl,rfl⟩:=trodAll_nil r0;obtain rfl:args=#[v0]:=by cases args;simp_all
 obtain⟨rfl,rfl⟩:=trodVars_none hV;obtain⟨s0,rfl,rfl,rfl,ws0⟩:=Py Tryz.underlying9 (h2 0 9 v0 rfl rfl) h0;clear h3 h1;have fin:∀e W',(e=Ending.returned (.bool true)∧Below W.heap.size W W')→∃v,e=Ending.returned v∧Rows.streamSmallSpec.post enc Tryz.prog Tryz.f9 false true false false W #[.string s0] v W':=by rintro e W' ⟨rfl,hb⟩;exact⟨_,rfl,oJ h5 rfl hb (by kernel_rfl) (by kernel_rfl) rfl⟩
 unfold maxLen at ws0;exact(CZ R W s0 (by omega)).mono fin
theorem row(R:bp 8192):Rows.streamSmallRow.holds Tryz.pinned (OpenSpec.ofChange Rows.streamSmallSpec):=
 O8 9 Tryz.f9 rfl rfl rfl rfl rfl rfl rfl ⟨rfl,rfl,rfl,rfl,rfl⟩ rfl rfl rfl rfl rfl (by kernel_rfl) Tryz.func9 (by kernel_rfl)
  (OP (by kernel_rfl)) (by unfold Func.isWrapper;first | (rw [LX (by decide +kernel)];kernel_rfl) | (rw [LW (by decide +kernel)];exact⟨rfl,rfl⟩))
  (fun os started H enc _=>nF R os started H enc)
end Go.Proofs.YtepokmggbfoakaaGreatDoor.StreamSmall
