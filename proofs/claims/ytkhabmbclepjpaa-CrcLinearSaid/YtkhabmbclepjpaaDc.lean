/- A register behind a byte, by the array. -/
import Derived.Test.YtkhabmbclepjpaaDb
namespace Go.Proofs.Ytkhabmbclepjpaa
open Go.RowKit

theorem behind_any (w : World) (g c b : Nat) (hg : ∀ i, i < 256 → w.cell? ⟨g, i, none⟩ = some (.int .u32 (crcTab i))) (hc : c < 4294967296) (hb : b < 256) :
    Calls Try.prog 20 #[.pointer (some ⟨g, 0, none⟩), .int .u32 c, .int .u8 b] w fun e w' => e = .returned (.int .u32 (crcByte c b)) ∧ w = w' := by
  have h1 : c / 16777216 < 256 := by omega
  have h2 : (c / 16777216) ^^^ b < 256 := Nat.xor_lt_two_pow (n := 8) h1 hb
  have hx : bits .xor .u8 ((c : Int) / 16777216) (b : Int) = (((c / 16777216) ^^^ b : Nat) : Int) := by
    rw [show ((c : Int) / 16777216) = ((c / 16777216 : Nat) : Int) by omega, u8_xor_nat _ _ h1 hb]
  have g1 := hg _ h2
  have h3 := crcTab_lt ((c / 16777216) ^^^ b)
  have ht := crcByte_tab c b hc hb
  generalize crcTab ((c / 16777216) ^^^ b) = y at *
  generalize (c / 16777216) ^^^ b = k at *
  have HT := Lib.hid ht
  have H3 := Lib.hid h3
  clear ht h3 hg
  go_enter Try.func20, Try.ntmps20
  go_wp2
  go_ret
  refine ⟨?_, rfl⟩
  rw [HT.out, show ((c : Int) * 256 % 4294967296) = ((c % 16777216 * 256 : Nat) : Int) by omega, u32_xor_nat _ _ (by omega) H3.out]
  rfl

end Go.Proofs.Ytkhabmbclepjpaa
