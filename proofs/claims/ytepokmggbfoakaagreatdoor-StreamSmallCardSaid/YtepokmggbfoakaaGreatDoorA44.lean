import Derived.Test.YtepokmggbfoakaaGreatDoorA41
set_option maxRecDepth 100000
namespace Go.Proofs.YtepokmggbfoakaaGreatDoor.StreamJoins
open Go.ChangeShapes Go.WideShapes Go.ChangeAt Go.RowKit
theorem nF(R:bp 8192)(os:Os)(started:os.Started)(H:Type)(enc:TypeId×Value→H):
 ReturnsInHanded {} Tryz.checked os 7 .any (fun w args=>(Rows.streamJoinsSpec.pre enc Tryz.prog Tryz.f7 [] false w args∧laidMetH Tryz.prog Rows.streamJoinsRow.laid w)∧sizedMet enc Tryz.prog Tryz.f7 (OpenSpec.ofChange Rows.streamJoinsSpec) false w args) (Rows.streamJoinsSpec.post enc Tryz.prog Tryz.f7 false true false false):=by
 refine Ou (C:=Tryz.checked) (X:=fun w _=>laidMetH Tryz.prog Rows.streamJoinsRow.laid w) (fun _ _ _ hh h=>h.of_heap hh) own started (by kernel_rfl) Tryz.func7
  (ChangeSpec.witness_shaped (enc:=enc) (C:=Tryz.checked) (os:=os) (X:=fun w _=>laidMetH Tryz.prog Rows.streamJoinsRow.laid w) false (World.doorLaid Tryz.prog 24 os) #[.slice none 0 0,.int .i64 0] 8 rfl (World.shaped_of_RefB (by kernel_rfl) (by kernel_rfl)) (by kernel_rfl) (by kernel_rfl) (by kernel_rfl) (oE os _)) ?_
 intro W base args ds gs before h2 hW _ _ _ _;have h3:∀(j:Nat) t v,Tryz.f7.params[j]? =some t→args[j]? =some v→Value.okWide Tryz.prog W .any base t v:=h2;have h6:=hW;obtain⟨p,q,h4,hV,rfl,ha,hc⟩:=hW;have hA:DataW.TrodAll enc Tryz.prog W 0 (fun _=>true) true Tryz.f7.params.toList args.toList ds p:=h4;rw[Tryz.params7]at hA h3;obtain⟨v0,vs0,d0,ds0,p0,q0,h5,rfl,rfl,h0,r0⟩:=trodAll_cons hA;obtain⟨v1,vs1,d1,ds1,p1,q1,rfl,rfl,rfl,h1,r1⟩:=trodAll_cons r0;obtain⟨rfl,rfl,rfl⟩:=trodAll_nil r1;obtain rfl:args=#[v0,v1]:=by cases args;simp_all
 obtain⟨rfl,rfl⟩:=trodVars_none hV;obtain⟨A0,n0,c0,rfl⟩:=okWide_slice Tryz.underlying37 (h3 0 37 v0 rfl rfl);obtain⟨L0,h9,h7,h8⟩:=KC h0;obtain⟨i1,rfl,rfl,rfl,w1⟩:=open_int Tryz.underlying3 (h3 1 3 v1 rfl rfl) h1;have b1:=bounds_i64 w1;clear h4 h2;have fin:∀e W',(e=Ending.returned (.bool true)∧Below W.heap.size W W')→∃v,e=Ending.returned v∧Rows.streamJoinsSpec.post enc Tryz.prog Tryz.f7 false true false false W #[.slice A0 n0 c0,.int .i64 i1] v W':=by rintro e W' ⟨rfl,hb⟩;exact⟨_,rfl,oJ h6 rfl hb (by kernel_rfl) (by kernel_rfl) rfl⟩
 by_cases h:i1<1∨9<i1;·exact(Cl R W A0 n0 c0 i1 h).mono fin
 ·obtain⟨lv,rfl⟩:∃lv:Nat,i1=lv:=⟨i1.toNat,by omega⟩;exact(FB R W A0 n0 c0 L0 lv h9 h7 (by omega) (by omega) h8).mono fin
theorem row(R:bp 8192):Rows.streamJoinsRow.holds Tryz.pinned (OpenSpec.ofChange Rows.streamJoinsSpec):=
 O8 7 Tryz.f7 rfl rfl rfl rfl rfl rfl rfl ⟨rfl,rfl,rfl,rfl,rfl⟩ rfl rfl rfl rfl rfl (by kernel_rfl) Tryz.func7 (by kernel_rfl)
  (OP (by kernel_rfl)) (by unfold Func.isWrapper;first | (rw [LX (by decide +kernel)];kernel_rfl) | (rw [LW (by decide +kernel)];exact⟨rfl,rfl⟩))
  (fun os started H enc _=>nF R os started H enc)
end Go.Proofs.YtepokmggbfoakaaGreatDoor.StreamJoins
