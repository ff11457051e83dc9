/- slices.Grow and strings.Repeat, laid at this program. No conditions. -/
import Derived.Test.YtihmlhkjafajmaaHc
import Derived.Test.YtihmlhkjafajmaaHx
namespace Go.Proofs.Ytihmlhkjafajmaa
open Go.Shelf Go.RowKit

theorem Try.extra : Builder.Extra Try.prog Try.laysRepeat_ren where
  sizeBuilder := by kernel_rfl
  liesBuilder := by kernel_rfl
  t5 := Try.laysRepeat.t5
  a5 := Try.laysRepeat.a5
  z5 := Try.laysRepeat.z5
  v5 := Try.laysRepeat.v5
  infoByte := by kernel_rfl
  cellsByte := by kernel_rfl
  sizeByte := by kernel_rfl
  neB5 := by decide

theorem Try.fRepeat : Try.laysRepeat_ren.f 105 = 18 := by kernel_rfl
theorem Try.fGrow : Try.laysGrow_ren.f 4 = 21 := by kernel_rfl
theorem Try.tGrow : Try.laysGrow_ren.t 25 = 5 := by kernel_rfl

theorem repeat_any (w : World) (s : ByteArray) (c : Nat) (hc : c ≤ 9223372036854775807) (hlen : s.size * c ≤ 140737488355328) :
    Calls Try.prog 18 #[.string s, .int .i64 c] w fun e w' => e = .returned (.string ⟨(Lib.repeatL s.data.toList c).toArray⟩) ∧ Below w.heap.size w w' := by
  have h := Any.strings_Repeat Try.laysRepeat Try.extra s c w hc hlen
  rw [Try.fRepeat] at h
  exact h

theorem grow_room (w : World) (base : Option Addr) (l c n : Nat) (hlc : l ≤ c) (hc63 : c ≤ 9223372036854775807) (hn63 : n ≤ 9223372036854775807) (hroom : l + n ≤ c) :
    Calls Try.prog 21 #[.slice base l c, .int .i64 n] w fun e w' => e = .returned (.slice base l c) ∧ w' = w := by
  have h := Any8.slices_Grow_room Try.laysGrow base l c n w hlc hc63 hn63 hroom
  rw [Try.fGrow] at h
  exact h
theorem grow_grow (w : World) (i0 : TypeInfo) (z : Value) (hi0 : Try.prog.info? 5 = some i0) (hz0 : i0.zero = some z) (hs0 : 0 < i0.size)
    (base : Option Addr) (l c n : Nat) (cs : List Value) (hlc : l ≤ c) (hroom : c < l + n) (hbig : (l + n) * i0.bytes ≤ 140737488355328) (h63 : l + n ≤ 4611686018427387904)
    (hcl : cs.length = c * i0.size) (hnil : base = none → c = 0) (hcs : ∀ a, base = some a → ∀ j v, cs[j]? = some v → w.cell? (a.add j) = some v) :
    Calls Try.prog 21 #[.slice base l c, .int .i64 n] w fun e w' =>
      e = .returned (.slice (some ⟨w.heap.size, 0, none⟩) l (grownCap w (l + n) c 5)) ∧
      w' = w.drew.alloc (.cells (cs.toArray ++ Builtin.zeroCells z.cells (l + n - c) ++ Builtin.zeroCells z.cells (grownCap w (l + n) c 5 - (l + n))) 5) := by
  have h := Any8.slices_Grow_grow Try.laysGrow i0 z (by rw [Try.tGrow]; exact hi0) hz0 hs0 base l c n cs w hlc hroom hbig h63 hcl hnil hcs
  rw [Try.fGrow, Try.tGrow] at h
  exact h

end Go.Proofs.Ytihmlhkjafajmaa
