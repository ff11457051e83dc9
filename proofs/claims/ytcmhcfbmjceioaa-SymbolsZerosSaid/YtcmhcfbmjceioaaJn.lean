/- The answers that the document fixes; the laws SymbolsOfs, SymbolsFronts, walked over what is asked of the code's functions. -/
import Derived.Test.YtcmhcfbmjceioaaJm
import Derived.Laws.StructEq
namespace Go.Proofs.Ytcmhcfbmjceioaa
open Go.RowKit

theorem guardB : Try.prog.eqGuardType Try.prog.depth 39 = false := by kernel_rfl
theorem heldB : Try.prog.stoodInHeld 39 = false := by kernel_rfl
theorem fieldsB : Try.prog.underlying 39 = some (.struct (Try.prog.fieldsOf 39)) := by simp [Program.fieldsOf, Try.underlying39]
/-- Two pieces of one text and one count are equal. -/
theorem bits_eql (T : ByteArray) (n : Int) (w : World) : (binOp .eql 39 (.agg #[.string T, .int .i64 n]) (.agg #[.string T, .int .i64 n])).run Try.prog w = .ok (.bool true) w := by
  rw [run_eql_struct, run_equalIn_agg w 9999 39 _ _ fieldsB heldB]
  simp [Program.fieldsOf, Try.underlying39, Op.eqFields, part, go_sem]

theorem ints_low {w w' : World} {A : Option Addr} {n : Nat} {L : List Nat} (h : IntsIn w A n L) (hb : Below w.heap.size w w') : IntsIn w' A n L := by
  refine ⟨h.1, fun hn => ?_⟩
  obtain ⟨b, off, rfl, hc⟩ := h.2 hn
  refine ⟨b, off, rfl, fun i hi => ?_⟩
  exact (hb.cell (p := ⟨b, off + i, none⟩) (World.block_lt_of_cell? w _ (hc i hi))).trans (hc i hi)
theorem ints_six (w : World) : IntsIn (w.alloc (.cells #[.int .i64 1, .int .i64 1, .int .i64 2, .int .i64 1, .int .i64 1, .int .i64 1] 3)) (some ⟨w.heap.size, 0, none⟩) 6 [1, 1, 2, 1, 1, 1] := by
  refine ⟨rfl, fun _ => ⟨w.heap.size, 0, rfl, fun i hi => ?_⟩⟩
  rw [Nat.zero_add, blk_cell (blk_new w 3 _)]
  match i, hi with
  | 0, _ => rfl
  | 1, _ => rfl
  | 2, _ => rfl
  | 3, _ => rfl
  | 4, _ => rfl
  | 5, _ => rfl

theorem front_six : frontAns [98, 97, 110, 97, 110, 97] [97, 98, 110] = ([1, 1, 2, 1, 1, 1], 0) := by decide +kernel
theorem may_one : MayL [97] := by decide +kernel
theorem pack_one : pack (showL [97]) = [2, 0, 64, 0] := by decide +kernel
theorem show_one : (showL [97]).length = 32 := by decide +kernel
theorem of_six : ofL [98, 97, 110, 97, 110, 97] = [97, 98, 110] := by decide +kernel

section
variable (R : SymDone)
include R

theorem afront (w : World) : Calls Try.prog 13 #[.string ⟨#[98, 97, 110, 97, 110, 97]⟩, .string ⟨#[97, 98, 110]⟩] w fun e w' => ∃ A c, e = .returned (.tuple #[.slice A 6 c, .int .i64 0]) ∧ IntsIn w' A 6 [1, 1, 2, 1, 1, 1] ∧ Below w.heap.size w w' := by
  refine (R.front w ⟨#[98, 97, 110, 97, 110, 97]⟩ ⟨#[97, 98, 110]⟩ (by decide) (by decide)).mono ?_
  rintro e w' ⟨v, L, c, ha, rfl, hown, hb⟩
  have h6 : frontAns [98, 97, 110, 97, 110, 97] [97, 98, 110] = (L, c) := ha
  rw [front_six] at h6
  simp only [Prod.mk.injEq] at h6
  obtain ⟨rfl, rfl⟩ := h6
  obtain ⟨A, c0, rfl, _⟩ := own_slice hown
  exact ⟨A, c0, rfl, ints_of_own hown, hb⟩
theorem ashow (w : World) : Calls Try.prog 18 #[.string ⟨#[97]⟩] w fun e w' => e = .returned (.tuple #[.agg #[.string ⟨#[2, 0, 64, 0]⟩, .int .i64 32], .int .i64 0]) ∧ Below w.heap.size w w' := by
  refine (R.shows w ⟨#[97]⟩ (by decide) may_one).mono ?_
  rintro e w' ⟨rfl, hb⟩
  have h1 : pack (showL (⟨#[97]⟩ : ByteArray).data.toList) = [2, 0, 64, 0] := pack_one
  have h2 : (showL (⟨#[97]⟩ : ByteArray).data.toList).length = 32 := show_one
  rw [h1, h2]
  exact ⟨rfl, hb⟩
theorem aof (w : World) : Calls Try.prog 10 #[.string ⟨#[98, 97, 110, 97, 110, 97]⟩] w fun e w' => e = .returned (.string ⟨#[97, 98, 110]⟩) ∧ Below w.heap.size w w' := by
  refine (R.of w ⟨#[98, 97, 110, 97, 110, 97]⟩ (by decide)).mono ?_
  rintro e w' ⟨rfl, hb⟩
  have h1 : ofL (⟨#[98, 97, 110, 97, 110, 97]⟩ : ByteArray).data.toList = [97, 98, 110] := of_six
  rw [h1]
  exact ⟨rfl, hb⟩

set_option maxHeartbeats 1600000 in
set_option maxRecDepth 100000 in
theorem awake_any (w : World) : Calls Try.prog 12 #[] w fun e w' => e = .returned (.bool true) ∧ Below w.heap.size w w' := by
  have heq := bits_eql ⟨#[2, 0, 64, 0]⟩ 32
  have hg := guardB
  have HOF := Lib.hid (aof R)
  have HSH := Lib.hid (ashow R)
  go_enter Try.func12, Try.ntmps12
  go_wp2_with fail
  refine (afront R w).mono ?_
  rintro e w1 ⟨A, c, rfl, hi, hb1⟩
  have HI := Lib.hid hi
  have HB1 := Lib.hid hb1
  clear hi hb1
  go_wp2_with fail
  refine (HSH.out w1).mono ?_
  rintro e w2 ⟨rfl, hb2⟩
  have HB2 := Lib.hid (HB1.out.trans (hb2.mono HB1.out.size))
  have HI2 := Lib.hid (ints_low HI.out hb2)
  clear hb2
  go_wp2_with fail
  refine (HOF.out _).mono ?_
  rintro e w3 ⟨rfl, hb3⟩
  have hz2 := HB2.out.size
  have hk : Blk w3 w2.heap.size 39 #[.string ⟨#[2, 0, 64, 0]⟩, .int .i64 32] := (step_of_below hb3).blk (blk_new w2 39 _) List.not_mem_nil List.not_mem_nil
  have hbl : Below w.heap.size w w3 := (HB2.out.alloc hz2 _).trans (hb3.mono (by simp; omega))
  have hi3 := ints_low (ints_low HI2.out ((Below.refl _ w2).alloc (Nat.le_refl _) (.cells #[.string ⟨#[2, 0, 64, 0]⟩, .int .i64 32] 39))) hb3
  have HK := Lib.hid hk
  have HBL := Lib.hid hbl
  have HI3 := Lib.hid hi3
  clear hk hbl hi3 hb3
  have hz3 := HBL.out.size
  have h4 := ints_low HI3.out ((Below.refl _ w3).alloc (Nat.le_refl _) (.cells #[.int .i64 1, .int .i64 1, .int .i64 2, .int .i64 1, .int .i64 1, .int .i64 1] 3))
  have HS := Lib.hid (ints_same _ _ _ 6 c 6 _ h4 (ints_six w3) (by omega))
  have hk4 : Blk (w3.alloc (.cells #[.int .i64 1, .int .i64 1, .int .i64 2, .int .i64 1, .int .i64 1, .int .i64 1] 3)) w2.heap.size 39 #[.string ⟨#[2, 0, 64, 0]⟩, .int .i64 32] := (step_of_below ((Below.refl _ w3).alloc (Nat.le_refl _) _)).blk HK.out List.not_mem_nil List.not_mem_nil
  have HK4 := Lib.hid hk4
  have HB4 := Lib.hid (HBL.out.alloc hz3 (.cells #[.int .i64 1, .int .i64 1, .int .i64 2, .int .i64 1, .int .i64 1, .int .i64 1] 3))
  clear h4 hk4
  go_wp2_with fail
  refine HS.out.mono ?_
  rintro e w5 ⟨rfl, m5, rfl⟩
  have hk5 : Blk ((w3.alloc (.cells #[.int .i64 1, .int .i64 1, .int .i64 2, .int .i64 1, .int .i64 1, .int .i64 1] 3)).drewN m5) w2.heap.size 39 #[.string ⟨#[2, 0, 64, 0]⟩, .int .i64 32] := HK4.out
  have HB5 := Lib.hid (below_drewN HB4.out m5)
  generalize (w3.alloc (.cells #[.int .i64 1, .int .i64 1, .int .i64 2, .int .i64 1, .int .i64 1, .int .i64 1] 3)).drewN m5 = w5 at *
  have q0 : w5.cell? ⟨w2.heap.size, 0, none⟩ = some (.string ⟨#[2, 0, 64, 0]⟩) := blk_cell hk5 0
  have q1 : w5.cell? ⟨w2.heap.size, 1, none⟩ = some (.int .i64 32) := blk_cell hk5 1
  clear hk5
  go_wp2_with fail
  go_ret
  exact ⟨rfl, HB5.out⟩
end

end Go.Proofs.Ytcmhcfbmjceioaa
