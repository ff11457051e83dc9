/- The sort, by a method value: slices.SortFunc puts any slice in order. -/
import Derived.Test.YtglcideecelemaaPr
namespace Go.Proofs.Ytglcideecelemaa
open Go.RowKit

theorem bitLen_le (n : Nat) (h : n ≤ 1000000000) : Lib.bitLen n ≤ 1000000000 := by
  have hh : Lib.bitLen n = Go.Sort.bitsLen n := bitLen_eq n (by omega)
  rw [hh]
  unfold Go.Sort.bitsLen
  split
  · omega
  · rename_i hn
    have h2 : n.log2 < 30 := (Nat.log2_lt hn).2 (by omega)
    omega

set_option maxHeartbeats 2000000 in
set_option maxRecDepth 100000 in
theorem sort_any : SortOk 1000000000 := by
  intro k r cf blk off cap d w hO C hH hblk _ hsz
  have R : Row1 encF w blk off d := ⟨fun _ => rfl, hH, hblk⟩
  have HL := Lib.hid fun w1 : World => bitslen_any d.size w1 hsz
  obtain ⟨l, hl⟩ : ∃ x, x = Lib.bitLen d.size := ⟨_, rfl⟩
  have hl2 : l ≤ 1000000000 := by rw [hl]; exact bitLen_le _ hsz
  rw [← hl] at HL
  clear hl
  have HP := Lib.hid (pdq_any k r cf hO blk off cap d w C R (d.size + 1) 0 d.size l d w (by omega) rfl (SW.start hH) (Nat.zero_le _) (Nat.le_refl _) hsz hl2 (Or.inl rfl))
  have wr : IntKind.u64.wrap (d.size : Int) = d.size := by simp [IntKind.wrap, IntKind.bits, IntKind.signed]; omega
  clear C R hH hO
  go_enter Try.func29, Try.ntmps29
  go_wp2_with fail
  refine (HL.out _).mono ?_
  rintro e w1 ⟨rfl, rfl⟩
  go_wp2_with fail
  refine HP.out.mono ?_
  rintro e w1 ⟨rfl, d', hp, hs, S1⟩
  have HS := Lib.hid S1
  have HP2 := Lib.hid hp
  have HS2 := Lib.hid hs
  clear S1 hp hs
  go_wp2_with fail
  go_end0
  exact ⟨rfl, d', HP2.out, HS2.out, HS.out⟩

end Go.Proofs.Ytglcideecelemaa
