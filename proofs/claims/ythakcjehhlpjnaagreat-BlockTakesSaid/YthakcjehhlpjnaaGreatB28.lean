import Derived.Test.YthakcjehhlpjnaaGreatB27
import Derived.Laws.IdiomArrays
set_option maxRecDepth 100000
namespace Go.Proofs.YthakcjehhlpjnaaGreat
open Go.RowKit
end Go.Proofs.YthakcjehhlpjnaaGreat
namespace Go.Proofs.YthakcjehhlpjnaaGreat.BlockMakes
open Go.ChangeShapes Go.WideShapes Go.ChangeAt Go.RowKit
end Go.Proofs.YthakcjehhlpjnaaGreat.BlockMakes
namespace Go.Proofs.YthakcjehhlpjnaaGreat.BlockTakes
open Go.ChangeShapes Go.WideShapes Go.ChangeAt Go.RowKit
theorem JJ{K:Nat}(R:iF K)(os:Os)(started:os.Started)(H:Type)(enc:TypeId×Value→H):
 ReturnsInHanded {} Tryz.checked os 4 .any (Rows.blockTakesSpec.pre6 enc Tryz.prog Tryz.f4 Rows.blockTakesRow.domain false) (Rows.blockTakesSpec.post enc Tryz.prog Tryz.f4 false true false false):=by
 refine returnsInHanded_of_change (C:=Tryz.checked) own started (by kernel_rfl) Tryz.func4
  (ChangeSpec.witness6 (enc:=enc) (C:=Tryz.checked) false ⟨#[],#[.string ⟨#[]⟩,.int .i64 0,.int .i64 0], []⟩ 8 (by kernel_rfl) (by kernel_rfl) (by kernel_rfl) (by kernel_rfl)) ?_
 intro W base args ds gs before h4 hW h8 _
 have h3:∀(j:Nat) t v,Tryz.f4.params[j]? =some t→args[j]? =some v→Value.okWide Tryz.prog W .any base t v:=h4
 have h7:=hW
 obtain⟨p,q,h5,hV,rfl,h9,ha⟩:=hW
 have hA:DataW.TrodAll enc Tryz.prog W 0 (fun _=>true) true Tryz.f4.params.toList args.toList ds p:=h5
 rw[Tryz.params4]at hA h3
 obtain⟨v0,vs0,d0,ds0,p0,q0,h6,rfl,rfl,h0,r0⟩:=trodAll_cons hA
 obtain⟨v1,vs1,d1,ds1,p1,q1,rfl,rfl,rfl,h1,r1⟩:=trodAll_cons r0
 obtain⟨v2,vs2,d2,ds2,p2,q2,rfl,rfl,rfl,h2,r2⟩:=trodAll_cons r1
 obtain⟨rfl,rfl,rfl⟩:=trodAll_nil r2
 obtain rfl:args=#[v0,v1,v2]:=by cases args;simp_all
 obtain⟨rfl,rfl⟩:=trodVars_none hV
 obtain⟨s0,rfl,rfl,rfl,ws0⟩:=Go.ChangeMaps.open_string Tryz.underlying9 (h3 0 9 v0 rfl rfl) h0
 obtain⟨i1,rfl,rfl,rfl,w1⟩:=open_int Tryz.underlying3 (h3 1 3 v1 rfl rfl) h1
 have b1:=bounds_i64 w1
 obtain⟨i2,rfl,rfl,rfl,w2⟩:=open_int Tryz.underlying3 (h3 2 3 v2 rfl rfl) h2
 have b2:=bounds_i64 w2
 clear h5 h4
 have fin:∀e W',(e=Ending.returned (.bool true)∧Below W.heap.size W W')→∃v,e=Ending.returned v∧Rows.blockTakesSpec.post enc Tryz.prog Tryz.f4 false true false false W #[.string s0,.int .i64 i1,.int .i64 i2] v W':=by
  rintro e W' ⟨rfl,hb⟩
  exact⟨_,rfl,F4 h7 rfl hb (by kernel_rfl) (by kernel_rfl) rfl⟩
 unfold maxLen at ws0
 exact(Eu R W s0 i1 i2 (by omega) b1.1 b1.2 b2.1 b2.2).mono fin
theorem JW{K:Nat}(R:iF K):Rows.blockTakesRow.holds Tryz.pinned (OpenSpec.ofChange Rows.blockTakesSpec):=
 OpenClaim.holds_of_wide 4 Tryz.f4 rfl rfl rfl rfl rfl rfl rfl ⟨rfl,rfl,rfl,rfl,rfl⟩ rfl rfl rfl rfl rfl (by kernel_rfl) Tryz.func4 (by kernel_rfl)
  (of_decide_eq_true (by kernel_rfl)) (by unfold Func.isWrapper;first | (rw [if_pos (by decide +kernel)];kernel_rfl) | (rw [if_neg (by decide +kernel)];exact⟨rfl,rfl⟩))
  (fun os started H enc _=>JJ R os started H enc)
end Go.Proofs.YthakcjehhlpjnaaGreat.BlockTakes
namespace Go.Proofs.YthakcjehhlpjnaaGreat.BlockBack
open Go.ChangeShapes Go.WideShapes Go.ChangeAt Go.RowKit
end Go.Proofs.YthakcjehhlpjnaaGreat.BlockBack
namespace Go.Proofs.YthakcjehhlpjnaaGreat.BlockSums
open Go.ChangeShapes Go.WideShapes Go.ChangeAt Go.RowKit
end Go.Proofs.YthakcjehhlpjnaaGreat.BlockSums
namespace Go.Proofs.YthakcjehhlpjnaaGreat.BlockSmall
open Go.ChangeShapes Go.WideShapes Go.ChangeAt Go.RowKit
end Go.Proofs.YthakcjehhlpjnaaGreat.BlockSmall
