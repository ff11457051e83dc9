/- What Slice refuses; the document's own Slice. Conditions: a text of at most a million bytes. -/
import Derived.Test.YtelgmihemnidkaaT
namespace Go.Proofs.Ytelgmihemnidkaa
open Go.RowKit

theorem slice_arg1 (w : World) (s : ByteArray) (a m : Int) (hs : s.size ≤ 1000000) (ha : a < 0 ∨ 8 * (s.size : Int) < a) :
    Calls Try.prog 25 #[.string s, .int .i64 a, .int .i64 m] w (SlicePost w [] 0 2) := by
  go_enter Try.func25, Try.ntmps25
  go_wp2_with fail
  refine (newR_none _ s a (by omega) ha).mono ?_
  rintro e w1 ⟨rfl, hw1⟩
  have hb0 : Blk w1 w.heap.size 54 #[.string ⟨#[]⟩, .int .i64 0] := by rw [← hw1]; exact blk_new w 54 _
  have hbl : Below w.heap.size w w1 := by rw [← hw1]; exact (Below.refl _ _).alloc (Nat.le_refl _) _
  have q0 : w1.cell? ⟨w.heap.size, 0, none⟩ = some (.string ⟨#[]⟩) := blk_cell hb0 0
  have q1 : w1.cell? ⟨w.heap.size, 1, none⟩ = some (.int .i64 0) := blk_cell hb0 1
  have f0 := blk_frozen hb0 0
  have f1 := blk_frozen hb0 1
  have HW := Lib.hid hw1
  clear hw1
  go_wp2_with fail
  refine bodyPost_ret (v := .tuple #[.agg #[.string ⟨#[]⟩, .int .i64 0], .int .i64 2]) ?_ rfl ⟨rfl, ?_⟩
  · simp [results, Try.results25, go_sem, q0, q1]
  · exact (hbl.setCell (p := ⟨w.heap.size, 0, none⟩) (Nat.le_refl _) _).setCell (p := ⟨w.heap.size, 1, none⟩) (Nat.le_refl _) _

theorem slice_arg2 (w : World) (s : ByteArray) (a : Nat) (m : Int) (hs : s.size ≤ 1000000) (ha : a ≤ 8 * s.size) (hm : m < 0 ∨ 8 * (s.size : Int) - a < m) :
    Calls Try.prog 25 #[.string s, .int .i64 a, .int .i64 m] w (SlicePost w [] 0 2) := by
  go_enter Try.func25, Try.ntmps25
  go_wp2_with fail
  refine (newR_yes _ s a (by omega) (by omega) (by omega)).mono ?_
  rintro e w1 ⟨rfl, hw1⟩
  have hR1 : IsR w.heap.size w1 (w.heap.size + 1) s a := by
    have := isR_new (w.alloc (.cells #[.string ⟨#[]⟩, .int .i64 0] 54)) w.heap.size (by simp) s a
    rw [hw1]
    simpa using this
  have hb0 : Blk w1 w.heap.size 54 #[.string ⟨#[]⟩, .int .i64 0] := by
    rw [hw1]
    exact (Below.heap_alloc _ _ _ (by simp)).trans (blk_new w 54 _)
  have hb1 : Below w.heap.size w w1 := by
    rw [hw1]
    exact ((Below.refl _ _).alloc (Nat.le_refl _) _).alloc (by simp) _
  have hsz : (World.alloc w (.cells #[.string ⟨#[]⟩, .int .i64 0] 54)).heap.size = w.heap.size + 1 := by simp
  rw [hsz]
  have HW1 := Lib.hid hw1
  clear hw1 hsz
  by_cases hm0 : m < 0
  · clear hm
    have q0 : w1.cell? ⟨w.heap.size, 0, none⟩ = some (.string ⟨#[]⟩) := blk_cell hb0 0
    have q1 : w1.cell? ⟨w.heap.size, 1, none⟩ = some (.int .i64 0) := blk_cell hb0 1
    have f0 := blk_frozen hb0 0
    have f1 := blk_frozen hb0 1
    go_wp2_with fail
    refine bodyPost_ret (v := .tuple #[.agg #[.string ⟨#[]⟩, .int .i64 0], .int .i64 2]) ?_ rfl ⟨rfl, ?_⟩
    · simp [results, Try.results25, go_sem, q0, q1]
    · exact (hb1.setCell (p := ⟨w.heap.size, 0, none⟩) (Nat.le_refl _) _).setCell (p := ⟨w.heap.size, 1, none⟩) (Nat.le_refl _) _
  · have hm1 : 8 * (s.size : Int) - a < m := by omega
    have hm2 : 0 ≤ m := by omega
    clear hm hm0
    go_wp2_with fail
    refine (leftR hR1 (by omega) (by omega)).mono ?_
    rintro e w' ⟨rfl, kk, rfl⟩
    have hb2 : Blk (w1.drewN kk) w.heap.size 54 #[.string ⟨#[]⟩, .int .i64 0] := hb0
    have hbl2 : Below w.heap.size w (w1.drewN kk) := below_drewN hb1 kk
    generalize w1.drewN kk = w2 at *
    have q0 : w2.cell? ⟨w.heap.size, 0, none⟩ = some (.string ⟨#[]⟩) := blk_cell hb2 0
    have q1 : w2.cell? ⟨w.heap.size, 1, none⟩ = some (.int .i64 0) := blk_cell hb2 1
    have f0 := blk_frozen hb2 0
    have f1 := blk_frozen hb2 1
    go_wp2_with fail
    refine bodyPost_ret (v := .tuple #[.agg #[.string ⟨#[]⟩, .int .i64 0], .int .i64 2]) ?_ rfl ⟨rfl, ?_⟩
    · simp [results, Try.results25, go_sem, q0, q1]
    · exact (hbl2.setCell (p := ⟨w.heap.size, 0, none⟩) (Nat.le_refl _) _).setCell (p := ⟨w.heap.size, 1, none⟩) (Nat.le_refl _) _

theorem rslice_ok (w : World) (s : ByteArray) (a m : Nat) (hs : s.size ≤ 1000000) (ham : a + m ≤ 8 * s.size) :
    Calls Try.prog 26 #[.string s, .int .i64 a, .int .i64 m] w (SlicePost w (pack (((bitsB s.data.toList).drop a).take m)) m 0) := by
  go_enter Try.func26, Try.ntmps26
  go_wp2_with fail
  refine (of_any _ s hs).mono ?_
  rintro e w1 ⟨v, rfl, ho, hb1⟩
  obtain ⟨Al, cl, hv, hcl, hcm, _⟩ := own_slice ho
  rw [hv] at ho ⊢
  have HV := Lib.hid hv
  clear hv
  have hI := ints_of_own ho
  have hb0 : Blk w1 w.heap.size 54 #[.string ⟨#[]⟩, .int .i64 0] := (step_of_below hb1).blk (blk_new w 54 _) (by simp) (by simp)
  have hbl : Below w.heap.size w w1 := ((Below.refl _ _).alloc (Nat.le_refl _) _).trans (hb1.mono (by simp))
  unfold maxLen at hcm
  have hC1 := fun wz (h : IntsIn wz Al m (((bitsB s.data.toList).drop a).take m)) => text_any wz Al m 0 (((bitsB s.data.toList).drop a).take m) h (((bit01_bitsB _).drop a).take m) (by omega)
  have HC1 := Lib.hid hC1
  clear hC1
  have HI := Lib.hid hI
  clear hI
  go_wp2_with fail
  · refine (HC1.out _ (HI.out.nil (by omega) ham)).mono ?_
    rintro e w2 ⟨rfl, hb2⟩
    have hb3 := (step_of_below hb2).blk hb0 (by simp) (by simp)
    have hbl3 := hbl.trans (hb2.mono hbl.size)
    have q0 : w2.cell? ⟨w.heap.size, 0, none⟩ = some (.string ⟨#[]⟩) := blk_cell hb3 0
    have q1 : w2.cell? ⟨w.heap.size, 1, none⟩ = some (.int .i64 0) := blk_cell hb3 1
    have f0 := blk_frozen hb3 0
    have f1 := blk_frozen hb3 1
    go_wp2_with fail
    refine bodyPost_ret (v := .tuple #[.agg #[.string ⟨(pack (((bitsB s.data.toList).drop a).take m)).toArray⟩, .int .i64 m], .int .i64 0]) ?_ rfl ⟨rfl, ?_⟩
    · simp [results, Try.results26, go_sem, q0, q1]
    · exact (hbl3.setCell (p := ⟨w.heap.size, 0, none⟩) (Nat.le_refl _) _).setCell (p := ⟨w.heap.size, 1, none⟩) (Nat.le_refl _) _
  · refine (text_any _ (Option.map (fun x => x.add a) Al) m (cl - a) (((bitsB s.data.toList).drop a).take m) (HI.out.cut ham) (((bit01_bitsB _).drop a).take m) (by omega)).mono ?_
    rintro e w2 ⟨rfl, hb2⟩
    have hb3 := (step_of_below hb2).blk hb0 (by simp) (by simp)
    have hbl3 := hbl.trans (hb2.mono hbl.size)
    have q0 : w2.cell? ⟨w.heap.size, 0, none⟩ = some (.string ⟨#[]⟩) := blk_cell hb3 0
    have q1 : w2.cell? ⟨w.heap.size, 1, none⟩ = some (.int .i64 0) := blk_cell hb3 1
    have f0 := blk_frozen hb3 0
    have f1 := blk_frozen hb3 1
    go_wp2_with fail
    refine bodyPost_ret (v := .tuple #[.agg #[.string ⟨(pack (((bitsB s.data.toList).drop a).take m)).toArray⟩, .int .i64 m], .int .i64 0]) ?_ rfl ⟨rfl, ?_⟩
    · simp [results, Try.results26, go_sem, q0, q1]
    · exact (hbl3.setCell (p := ⟨w.heap.size, 0, none⟩) (Nat.le_refl _) _).setCell (p := ⟨w.heap.size, 1, none⟩) (Nat.le_refl _) _

theorem rslice_arg (w : World) (s : ByteArray) (a m : Int) (hs : s.size ≤ 1000000) (h : a < 0 ∨ (0 ≤ a ∧ m < 0) ∨ (0 ≤ a ∧ 0 ≤ m ∧ 8 * (s.size : Int) < a) ∨ (0 ≤ a ∧ 0 ≤ m ∧ a ≤ 8 * (s.size : Int) ∧ 8 * (s.size : Int) - a < m)) :
    Calls Try.prog 26 #[.string s, .int .i64 a, .int .i64 m] w (SlicePost w [] 0 2) := by
  rcases h with h | ⟨h, h1⟩ | ⟨h, h1, h2⟩ | ⟨h, h1, h2, h3⟩
  all_goals
    go_enter Try.func26, Try.ntmps26
    go_wp2_with fail
    refine (of_any _ s hs).mono ?_
    rintro e w1 ⟨v, rfl, ho, hb1⟩
    obtain ⟨Al, cl, hv, hcl, hcm, _⟩ := own_slice ho
    rw [hv] at ho ⊢
    have HV := Lib.hid hv
    clear hv
    have hb0 : Blk w1 w.heap.size 54 #[.string ⟨#[]⟩, .int .i64 0] := (step_of_below hb1).blk (blk_new w 54 _) (by simp) (by simp)
    have hbl : Below w.heap.size w w1 := ((Below.refl _ _).alloc (Nat.le_refl _) _).trans (hb1.mono (by simp))
    have q0 : w1.cell? ⟨w.heap.size, 0, none⟩ = some (.string ⟨#[]⟩) := blk_cell hb0 0
    have q1 : w1.cell? ⟨w.heap.size, 1, none⟩ = some (.int .i64 0) := blk_cell hb0 1
    have f0 := blk_frozen hb0 0
    have f1 := blk_frozen hb0 1
    go_wp2_with fail
    refine bodyPost_ret (v := .tuple #[.agg #[.string ⟨#[]⟩, .int .i64 0], .int .i64 2]) ?_ rfl ⟨rfl, ?_⟩
    · simp [results, Try.results26, go_sem, q0, q1]
    · exact (hbl.setCell (p := ⟨w.heap.size, 0, none⟩) (Nat.le_refl _) _).setCell (p := ⟨w.heap.size, 1, none⟩) (Nat.le_refl _) _

end Go.Proofs.Ytelgmihemnidkaa
