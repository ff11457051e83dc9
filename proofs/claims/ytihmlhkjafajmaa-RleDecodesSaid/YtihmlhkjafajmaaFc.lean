/- The laws RleLengths and RleCuts, walked, over the contracts of the calls. -/
import Derived.Test.YtihmlhkjafajmaaFb
import Derived.Deep.RegionWith
namespace Go.Proofs.Ytihmlhkjafajmaa
open Go.RowKit
theorem conv_cell (b : UInt8) (w1 : World) (g : Nat) (h : w1.cell? ⟨g, 0, none⟩ = some (.int .u8 b.toNat)) : (convert 32 9 (.slice (some ⟨g, 0, none⟩) 1 1)).run Try.prog w1 = .ok (.string ⟨#[b]⟩) w1 := by
  have := run_convert_bytes_arg (P := Try.prog) w1 32 5 Try.underlying32 Try.underlying5 g 0 1 1 [b.toNat] rfl (fun i hi => by
    obtain rfl : i = 0 := by omega
    exact h) 9 Try.underlying9
  rw [this]
  simp [strOfNums]

theorem keep_cell {u w1 : World} {x : Value} {t : TypeId} (hb : Below (u.alloc (.cells #[x] t)).heap.size (u.alloc (.cells #[x] t)) w1) : w1.cell? ⟨u.heap.size, 0, none⟩ = some x := by
  refine (hb.cell (p := ⟨u.heap.size, 0, none⟩) (by simp)).trans ?_
  rw [World.cell?_alloc_new]
  rfl
theorem keep_cell_drew {u w1 : World} {x : Value} {t : TypeId} (hb : Below (u.alloc (.cells #[x] t)).drew.heap.size (u.alloc (.cells #[x] t)).drew w1) : w1.cell? ⟨u.heap.size, 0, none⟩ = some x := by
  refine (hb.cell (p := ⟨u.heap.size, 0, none⟩) (show u.heap.size < (u.alloc (.cells #[x] t)).heap.size by simp)).trans ?_
  show (u.alloc (.cells #[x] t)).cell? _ = _
  rw [World.cell?_alloc_new]
  rfl
theorem from_alloc_drew {u w1 : World} {o : Obj} (hb : Below (u.alloc o).drew.heap.size (u.alloc o).drew w1) : Below u.heap.size u w1 :=
  Below.trans (Below.drew ((Below.refl _ u).alloc (Nat.le_refl _) o)) (hb.mono (show u.heap.size ≤ (u.alloc o).heap.size by simp))
theorem from_alloc (u : World) {w1 : World} {o : Obj} (hb : Below (u.alloc o).heap.size (u.alloc o) w1) : Below u.heap.size u w1 :=
  Below.trans ((Below.refl _ u).alloc (Nat.le_refl _) o) (hb.mono (by simp))

variable (R : RleDone)
include R

set_option maxHeartbeats 1600000 in
theorem lengths_walk (w : World) (s : ByteArray) (b : UInt8) (hs : s.size ≤ 1048576) :
    Calls Try.prog 7 #[.string s, .int .u8 b.toNat] w fun e w' => e = .returned (.bool true) ∧ Below w.heap.size w w' := by
  have hl := encL_long s.data.toList
  have hsl : s.data.toList.length = s.size := rfl
  obtain ⟨hn1, hn2⟩ := encL_snoc s.data.toList b
  rw [hsl] at hl
  have hsz : (s ++ ⟨#[b]⟩ : ByteArray).size ≤ 2097152 := by rw [ByteArray.size_append]; show s.size + 1 ≤ _; omega
  have h2 := fun w1 : World => R.enc w1 (s ++ ⟨#[b]⟩) hsz
  have hdata : (s ++ ⟨#[b]⟩ : ByteArray).data.toList = s.data.toList ++ [b] := cat_data s ⟨#[b]⟩
  rw [hdata] at h2
  have h1 := fun w1 : World => R.enc w1 s (by omega)
  have hconv : ∀ (w1 : World) (g : Nat), w1.cell? ⟨g, 0, none⟩ = some (.int .u8 b.toNat) → (convert 32 9 (.slice (some ⟨g, 0, none⟩) 1 1)).run Try.prog w1 = .ok (.string ⟨#[b]⟩) w1 := conv_cell b
  obtain ⟨E, hE⟩ : ∃ E : ByteArray, E = ⟨(encL s.data.toList).toArray⟩ := ⟨_, rfl⟩
  obtain ⟨G, hG⟩ : ∃ G : ByteArray, G = ⟨(encL (s.data.toList ++ [b])).toArray⟩ := ⟨_, rfl⟩
  rw [← hE] at h1
  rw [← hG] at h2
  have hEs : E.size = (encL s.data.toList).length := by rw [hE]; rfl
  have hGs : G.size = (encL (s.data.toList ++ [b])).length := by rw [hG]; rfl
  rw [← hEs] at hl hn1 hn2
  rw [← hGs] at hn1 hn2
  have H1 := Lib.hid h1
  have H2 := Lib.hid h2
  have HSZ := Lib.hid hsz
  clear hE hG h1 h2 hEs hGs hdata hsl hsz
  go_enter Try.func7, Try.ntmps7
  go_wp2_with fail
  have hd0 : Below w.heap.size w w.drew := (Below.refl _ w).drew
  go_region_with (first
    | (go_at_call_of 9 (Value.string s); refine (H1.out _).mono ?_; rintro e w1 ⟨rfl, hb1⟩
       first
         | (with_reducible have hk := keep_cell_drew (u := w) hb1
            have hB1 : Below w.heap.size w w1 := from_alloc_drew hb1)
         | (have hB1 : Below w.heap.size w w1 := hd0.trans hb1))
    | (go_at_call 9; refine (H2.out _).mono ?_; rintro e w2 ⟨rfl, hb2⟩
       first
         | (with_reducible have hB2 := Below.trans hB1 (Below.mono (from_alloc w1 hb2) hB1.size))
         | (with_reducible have hB2 := Below.trans hB1 (Below.mono (from_alloc_drew (u := w1) hb2) hB1.size))
         | (have hB2 := hB1.trans (hb2.mono hB1.size))))
  all_goals clear hconv
  all_goals go_wp2_with fail
  all_goals refine (awake_any R _).mono ?_
  all_goals rintro e w3 ⟨rfl, hb3⟩
  all_goals go_wp2_with fail
  all_goals go_ret
  all_goals exact ⟨rfl, hB2.trans (hb3.mono hB2.size)⟩

end Go.Proofs.Ytihmlhkjafajmaa
