import Derived.Test.YtepokmggbfoakaaGreatDoorA41
set_option maxRecDepth 100000
namespace Go.Proofs.YtepokmggbfoakaaGreatDoor.StreamCuts
open Go.ChangeShapes Go.WideShapes Go.ChangeAt Go.RowKit
theorem nF(R:bp 8192)(os:Os)(started:os.Started)(H:Type)(enc:TypeId×Value→H):
 ReturnsInHanded {} Tryz.checked os 8 .any (fun w args=>(Rows.streamCutsSpec.pre enc Tryz.prog Tryz.f8 [] false w args∧laidMetH Tryz.prog Rows.streamCutsRow.laid w)∧sizedMet enc Tryz.prog Tryz.f8 (OpenSpec.ofChange Rows.streamCutsSpec) false w args) (Rows.streamCutsSpec.post enc Tryz.prog Tryz.f8 false true false false):=by
 refine Ou (C:=Tryz.checked) (X:=fun w _=>laidMetH Tryz.prog Rows.streamCutsRow.laid w) (fun _ _ _ hh h=>h.of_heap hh) own started (by kernel_rfl) Tryz.func8
  (ChangeSpec.witness_shaped (enc:=enc) (C:=Tryz.checked) (os:=os) (X:=fun w _=>laidMetH Tryz.prog Rows.streamCutsRow.laid w) false (World.doorLaid Tryz.prog 24 os) #[.string ⟨#[]⟩,.int .i64 0,.int .u8 0] 8 rfl (World.shaped_of_RefB (by kernel_rfl) (by kernel_rfl)) (by kernel_rfl) (by kernel_rfl) (by kernel_rfl) (oE os _)) ?_
 intro W base args ds gs before h4 hW _ _ _ _;have h3:∀(j:Nat) t v,Tryz.f8.params[j]? =some t→args[j]? =some v→Value.okWide Tryz.prog W .any base t v:=h4;have h7:=hW;obtain⟨p,q,h5,hV,rfl,h8,h9⟩:=hW;have hA:DataW.TrodAll enc Tryz.prog W 0 (fun _=>true) true Tryz.f8.params.toList args.toList ds p:=h5;rw[Tryz.params8]at hA h3;obtain⟨v0,vs0,d0,ds0,p0,q0,h6,rfl,rfl,h0,r0⟩:=trodAll_cons hA;obtain⟨v1,vs1,d1,ds1,p1,q1,rfl,rfl,rfl,h1,r1⟩:=trodAll_cons r0;obtain⟨v2,vs2,d2,ds2,p2,q2,rfl,rfl,rfl,h2,r2⟩:=trodAll_cons r1;obtain⟨rfl,rfl,rfl⟩:=trodAll_nil r2;obtain rfl:args=#[v0,v1,v2]:=by cases args;simp_all
 obtain⟨rfl,rfl⟩:=trodVars_none hV;obtain⟨s0,rfl,rfl,rfl,ws0⟩:=Py Tryz.underlying9 (h3 0 9 v0 rfl rfl) h0;obtain⟨i1,rfl,rfl,rfl,w1⟩:=open_int Tryz.underlying3 (h3 1 3 v1 rfl rfl) h1;have b1:=bounds_i64 w1;obtain⟨i2,rfl,rfl,rfl,w2⟩:=open_int Tryz.underlying5 (h3 2 5 v2 rfl rfl) h2;have b2:=bounds_u8 w2;clear h5 h4;have fin:∀e W',(e=Ending.returned (.bool true)∧Below W.heap.size W W')→∃v,e=Ending.returned v∧Rows.streamCutsSpec.post enc Tryz.prog Tryz.f8 false true false false W #[.string s0,.int .i64 i1,.int .u8 i2] v W':=by rintro e W' ⟨rfl,hb⟩;exact⟨_,rfl,oJ h7 rfl hb (by kernel_rfl) (by kernel_rfl) rfl⟩
 unfold maxLen at ws0;obtain⟨o,rfl⟩:∃o:Nat,i2=o:=⟨i2.toNat,by omega⟩;by_cases h:300<s0.size∨o=66;·exact(CU R W s0 i1 o (by omega) h).mono fin
 ·exact(Gh R W s0 i1 o (by omega) (by omega) (by omega)).mono fin
theorem row(R:bp 8192):Rows.streamCutsRow.holds Tryz.pinned (OpenSpec.ofChange Rows.streamCutsSpec):=
 O8 8 Tryz.f8 rfl rfl rfl rfl rfl rfl rfl ⟨rfl,rfl,rfl,rfl,rfl⟩ rfl rfl rfl rfl rfl (by kernel_rfl) Tryz.func8 (by kernel_rfl)
  (OP (by kernel_rfl)) (by unfold Func.isWrapper;first | (rw [LX (by decide +kernel)];kernel_rfl) | (rw [LW (by decide +kernel)];exact⟨rfl,rfl⟩))
  (fun os started H enc _=>nF R os started H enc)
end Go.Proofs.YtepokmggbfoakaaGreatDoor.StreamCuts
