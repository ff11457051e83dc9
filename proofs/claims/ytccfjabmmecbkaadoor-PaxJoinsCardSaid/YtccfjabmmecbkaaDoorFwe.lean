/- strconv.Itoa, laid at this program. Conditions: the tables are there. -/
import Derived.Test.YtccfjabmmecbkaaDoorTab
import Derived.Test.YtccfjabmmecbkaaDoorFdf
import Derived.Test.YtccfjabmmecbkaaDoorLx
namespace Go.Proofs.YtccfjabmmecbkaaDoor
open Go.Shelf Go.RowKit

set_option maxRecDepth 100000 in
theorem Tryd.fItoa : Tryd.laysItoa_ren.f 171 = 26 := by kernel_rfl
set_option maxRecDepth 100000 in
theorem below_grow (w : World) (k : Nat) (os : Array Obj) : Below w.heap.size w (Sort.grow (w.drewN k) os) :=
  ⟨rfl, rfl, rfl, by simp [Sort.grow], fun j hj => by simp [Sort.grow, Array.getElem?_append, hj]⟩
theorem itoa_any (w : World) (hT : Tabs w) (n : Int) (h0 : -9223372036854775808 ≤ n) (h1 : n ≤ 9223372036854775807) :
    Calls Tryd.prog 26 #[.int .i64 n] w fun e w' => e = .returned (.string ⟨(Lib.itoa n).toArray⟩) ∧ Below w.heap.size w w' := by
  have h := Any.strconv_Itoa Tryd.laysItoa n h0 h1 w hT.1
  rw [Tryd.fItoa] at h
  refine h.mono ?_
  rintro e w' ⟨rfl, k, os, rfl⟩
  exact ⟨rfl, below_grow w k os⟩
end Go.Proofs.YtccfjabmmecbkaaDoor
