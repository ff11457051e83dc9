/- Join joins pieces, one behind the other, or refuses where one may not be. Conditions: the texts have together at most 2000 bytes. -/
import Derived.Test.YtelgmihemnidkaaY
namespace Go.Proofs.Ytelgmihemnidkaa
open Go.RowKit

set_option maxHeartbeats 800000 in
theorem join_ok (w : World) (A : Option Addr) (n c : Nat) (T : Nat → ByteArray) (K : Nat → Int) (hp : PairsIn w w.heap.size A n (fun i => .string (T i)) (fun i => .int .i64 (K i))) (hn : n ≤ maxLen)
    (htot : totS T n ≤ 2000) (hK : ∀ i, i < n → -9223372036854775808 ≤ K i ∧ K i ≤ 9223372036854775807) (hall : ∀ i, i < n → mayB (T i) (K i) = true) :
    Calls Try.prog 27 #[.slice A n c] w (SlicePost w (pack (joinL T K n)) (joinL T K n).length 0) := by
  unfold maxLen at hn
  go_enter Try.func27, Try.ntmps27
  go_wp2_with fail
  refine (newW _).mono ?_
  rintro e w1 ⟨rfl, hw1⟩
  have hsz : (World.alloc w (.cells #[.string ⟨#[]⟩, .int .i64 0] 54)).heap.size = w.heap.size + 1 := by simp
  rw [hsz]
  have hW1 : IsW w.heap.size w1 (w.heap.size + 1) (.slice none 0 0) [] := by
    have := isW_new (w.alloc (.cells #[.string ⟨#[]⟩, .int .i64 0] 54)) w.heap.size (by simp)
    rw [hsz] at this
    rw [hw1]
    exact this
  have hk1 : Blk w1 w.heap.size 54 #[.string ⟨#[]⟩, .int .i64 0] := by
    rw [hw1]
    exact (Below.heap_alloc _ _ _ (by simp)).trans (blk_new w 54 _)
  have hb1 : Below w.heap.size w w1 := by
    rw [hw1]
    exact ((Below.refl _ _).alloc (Nat.le_refl _) _).alloc (by simp) _
  have HW1 := Lib.hid hw1
  clear hw1 hsz
  go_wp2_with fail
  go_loopw [10] (fun i wr => ∃ (j : Nat) (v : Value), j ≤ n ∧ i = .int .i64 j ∧ IsW w.heap.size wr (w.heap.size + 1) v (joinL T K j) ∧ Blk wr w.heap.size 54 #[.string ⟨#[]⟩, .int .i64 0] ∧ Below w.heap.size w wr) (fun i _ => n - (intOf i).toNat)
  case atStart => exact ⟨0, _, Nat.zero_le _, rfl, hW1, hk1, hb1⟩
  case round =>
    obtain ⟨j, v, hj, rfl, hW, hk, hb⟩ := hrel
    have hjl := joinL_length T K j
    have hjt := totS_mono T hj
    have hz := hb.size
    by_cases h : j < n
    · obtain ⟨b, off, rfl, hbB, hc⟩ := hp (by omega)
      obtain ⟨k, hkk, hk8⟩ := may_nat (hall j h)
      have hTj := totS_at T h
      have hmay := may_walk (wr.alloc (.cells #[.string (T j), .int .i64 k] 54)) (T j) (K j) (by omega) (hK j h)
      rw [hall j h, hkk] at hmay
      have g1 : wr.cell? ⟨b, off + j * 2, none⟩ = some (.string (T j)) := (hb.cell (p := ⟨b, off + j * 2, none⟩) hbB).trans (hc j h).1
      have g2 : wr.cell? ⟨b, off + j * 2 + 1, none⟩ = some (.int .i64 k) := by rw [← hkk]; exact (hb.cell (p := ⟨b, off + j * 2 + 1, none⟩) hbB).trans (hc j h).2
      have HM := Lib.hid hmay
      have HKK := Lib.hid hkk
      clear hmay hkk hc
      have hWa := hW.alloc (.cells #[.string (T j), .int .i64 k] 54)
      go_wp2_with fail
      refine HM.out.mono ?_
      rintro e w2 ⟨rfl, hb2⟩
      have hs2 := step_of_below hb2
      have hW2 : IsW w.heap.size w2.drew (w.heap.size + 1) v (joinL T K j) := (hWa.step hs2 (by simp) (by simp) (by simp) (by simp)).drew
      have hk2 : Blk w2.drew w.heap.size 54 #[.string ⟨#[]⟩, .int .i64 0] := hs2.blk ((Below.heap_alloc _ _ _ (blk_lt hk)).trans hk) (by simp) (by simp)
      have hq2 : Blk w2.drew wr.heap.size 54 #[.string (T j), .int .i64 k] := hs2.blk (blk_new wr 54 _) (by simp) (by simp)
      have hbl2 : Below w.heap.size w w2.drew := ((hb.alloc hz _).trans (hb2.mono (by simp; omega))).drew
      have e1 : w2.cell? ⟨wr.heap.size, 0, none⟩ = some (.string (T j)) := blk_cell hq2 0
      have e2 : w2.cell? ⟨wr.heap.size, 1, none⟩ = some (.int .i64 k) := blk_cell hq2 1
      have hz2 := hbl2.size
      have hmem : wr.heap.size ∉ [w.heap.size + 1, w2.drew.heap.size] := by
        have h1 := blk_lt hW.blk
        have h2 := blk_lt hq2
        simp only [List.mem_cons, List.not_mem_nil, or_false]
        omega
      have hmem0 : w.heap.size ∉ [w.heap.size + 1, w2.drew.heap.size] := by
        have h2 := blk_lt hk2
        simp only [List.mem_cons, List.not_mem_nil, or_false]
        omega
      go_upto_region 7 with fail
      go_region_held3 (fun w' => w'.cell? ⟨wr.heap.size, 0, none⟩ = some (.string (T j)) ∧ w'.cell? ⟨wr.heap.size, 1, none⟩ = some (.int .i64 k)) (first | exact ⟨e1, e2⟩ | exact ⟨blk_cell hq4 0, blk_cell hq4 1⟩ | exact ⟨blk_cell hq3 0, blk_cell hq3 1⟩ | go_keep)
        (first | (go_at_call 17; refine (newR_yes _ _ 0 (by omega) (by omega) (by omega)).mono ?_; rintro e w3 ⟨rfl, hw3⟩; have hW3 : IsW w.heap.size w3 (w.heap.size + 1) v (joinL T K j) := (by rw [hw3]; exact hW2.alloc _); have hR3 : IsR w.heap.size w3 w2.drew.heap.size (T j) 0 := (by rw [hw3]; exact isR_new w2.drew _ hz2 (T j) 0); have hq3 : Blk w3 wr.heap.size 54 #[.string (T j), .int .i64 k] := (by rw [hw3]; exact (Below.heap_alloc _ _ _ (blk_lt hq2)).trans hq2); have hk3 : Blk w3 w.heap.size 54 #[.string ⟨#[]⟩, .int .i64 0] := (by rw [hw3]; exact (Below.heap_alloc _ _ _ (blk_lt hk2)).trans hk2); have hbl3 : Below w.heap.size w w3 := (by rw [hw3]; exact hbl2.alloc hz2 _); clear hw3) | (go_at_call 33; refine (carry_ok _ _ _ _ _ _ _ 0 k hW3 hR3 (by omega) (by omega) (by omega)).mono ?_; rintro e w4 ⟨rfl, ⟨v4, hW4⟩, hR4, hS4⟩; have hq4 := hS4.blk hq3 hmem (by simp)))
      have hk4 := hS4.blk hk3 hmem0 (by simp)
      have hjn : joinL T K j ++ ((bitsB (T j).data.toList).drop 0).take k = joinL T K (j + 1) := by
        rw [joinL, HKK.out, Int.toNat_natCast, List.drop_zero]
      rw [hjn] at hW4
      have HJN := Lib.hid hjn
      clear hjn
      have hbl4 := hbl3.trans hS4.below
      go_wp2_with fail
      go_roundw
      case rel => exact ⟨j + 1, v4, h, by go_num, hW4, hk4, hbl4⟩
      case measure => simp [intOf]; omega
    · obtain rfl : j = n := by omega
      have q0 : wr.cell? ⟨w.heap.size, 0, none⟩ = some (.string ⟨#[]⟩) := blk_cell hk 0
      have q1 : wr.cell? ⟨w.heap.size, 1, none⟩ = some (.int .i64 0) := blk_cell hk 1
      have f0 := blk_frozen hk 0
      have f1 := blk_frozen hk 1
      go_wp2_with (first | (go_at_call 15; refine (wtext_yes _ _ _ _ _ hW).mono ?_; rintro e w' ⟨rfl, rfl⟩) | (go_at_call 14; refine (lenW hW).mono ?_; rintro e w' ⟨rfl, rfl⟩))
      refine bodyPost_ret (v := .tuple #[.agg #[.string ⟨(pack (joinL T K j)).toArray⟩, .int .i64 (joinL T K j).length], .int .i64 0]) ?_ rfl ⟨rfl, ?_⟩
      · simp [results, Try.results27, go_sem, q0, q1]
      · exact (hb.setCell (p := ⟨w.heap.size, 0, none⟩) (Nat.le_refl _) _).setCell (p := ⟨w.heap.size, 1, none⟩) (Nat.le_refl _) _

set_option maxHeartbeats 800000 in
theorem join_bad (w : World) (A : Option Addr) (n c : Nat) (T : Nat → ByteArray) (K : Nat → Int) (hp : PairsIn w w.heap.size A n (fun i => .string (T i)) (fun i => .int .i64 (K i))) (hn : n ≤ maxLen)
    (htot : totS T n ≤ 2000) (hK : ∀ i, i < n → -9223372036854775808 ≤ K i ∧ K i ≤ 9223372036854775807) (j0 : Nat) (hj0 : j0 < n) (hbad : mayB (T j0) (K j0) = false) (hall : ∀ i, i < j0 → mayB (T i) (K i) = true) :
    Calls Try.prog 27 #[.slice A n c] w (SlicePost w [] 0 2) := by
  unfold maxLen at hn
  go_enter Try.func27, Try.ntmps27
  go_wp2_with fail
  refine (newW _).mono ?_
  rintro e w1 ⟨rfl, hw1⟩
  have hsz : (World.alloc w (.cells #[.string ⟨#[]⟩, .int .i64 0] 54)).heap.size = w.heap.size + 1 := by simp
  rw [hsz]
  have hW1 : IsW w.heap.size w1 (w.heap.size + 1) (.slice none 0 0) [] := by
    have := isW_new (w.alloc (.cells #[.string ⟨#[]⟩, .int .i64 0] 54)) w.heap.size (by simp)
    rw [hsz] at this
    rw [hw1]
    exact this
  have hk1 : Blk w1 w.heap.size 54 #[.string ⟨#[]⟩, .int .i64 0] := by
    rw [hw1]
    exact (Below.heap_alloc _ _ _ (by simp)).trans (blk_new w 54 _)
  have hb1 : Below w.heap.size w w1 := by
    rw [hw1]
    exact ((Below.refl _ _).alloc (Nat.le_refl _) _).alloc (by simp) _
  have HW1 := Lib.hid hw1
  clear hw1 hsz
  go_wp2_with fail
  go_loopw [10] (fun i wr => ∃ (j : Nat) (v : Value), j ≤ j0 ∧ i = .int .i64 j ∧ IsW w.heap.size wr (w.heap.size + 1) v (joinL T K j) ∧ Blk wr w.heap.size 54 #[.string ⟨#[]⟩, .int .i64 0] ∧ Below w.heap.size w wr) (fun i _ => n - (intOf i).toNat)
  case atStart => exact ⟨0, _, Nat.zero_le _, rfl, hW1, hk1, hb1⟩
  case round =>
    obtain ⟨j, v, hj, rfl, hW, hk, hb⟩ := hrel
    have hjl := joinL_length T K j
    have hjt := totS_mono T (Nat.le_trans hj (Nat.le_of_lt hj0))
    have hz := hb.size
    have hjn0 : j < n := by omega
    obtain ⟨b, off, rfl, hbB, hc⟩ := hp (by omega)
    by_cases h : j < j0
    · obtain ⟨k, hkk, hk8⟩ := may_nat (hall j h)
      have hTj := totS_at T hjn0
      have hmay := may_walk (wr.alloc (.cells #[.string (T j), .int .i64 k] 54)) (T j) (K j) (by omega) (hK j hjn0)
      rw [hall j h, hkk] at hmay
      have g1 : wr.cell? ⟨b, off + j * 2, none⟩ = some (.string (T j)) := (hb.cell (p := ⟨b, off + j * 2, none⟩) hbB).trans (hc j hjn0).1
      have g2 : wr.cell? ⟨b, off + j * 2 + 1, none⟩ = some (.int .i64 k) := by rw [← hkk]; exact (hb.cell (p := ⟨b, off + j * 2 + 1, none⟩) hbB).trans (hc j hjn0).2
      have HM := Lib.hid hmay
      have HKK := Lib.hid hkk
      clear hmay hkk hc
      have hWa := hW.alloc (.cells #[.string (T j), .int .i64 k] 54)
      go_wp2_with fail
      refine HM.out.mono ?_
      rintro e w2 ⟨rfl, hb2⟩
      have hs2 := step_of_below hb2
      have hW2 : IsW w.heap.size w2.drew (w.heap.size + 1) v (joinL T K j) := (hWa.step hs2 (by simp) (by simp) (by simp) (by simp)).drew
      have hk2 : Blk w2.drew w.heap.size 54 #[.string ⟨#[]⟩, .int .i64 0] := hs2.blk ((Below.heap_alloc _ _ _ (blk_lt hk)).trans hk) (by simp) (by simp)
      have hq2 : Blk w2.drew wr.heap.size 54 #[.string (T j), .int .i64 k] := hs2.blk (blk_new wr 54 _) (by simp) (by simp)
      have hbl2 : Below w.heap.size w w2.drew := ((hb.alloc hz _).trans (hb2.mono (by simp; omega))).drew
      have e1 : w2.cell? ⟨wr.heap.size, 0, none⟩ = some (.string (T j)) := blk_cell hq2 0
      have e2 : w2.cell? ⟨wr.heap.size, 1, none⟩ = some (.int .i64 k) := blk_cell hq2 1
      have hz2 := hbl2.size
      have hmem : wr.heap.size ∉ [w.heap.size + 1, w2.drew.heap.size] := by
        have h1 := blk_lt hW.blk
        have h2 := blk_lt hq2
        simp only [List.mem_cons, List.not_mem_nil, or_false]
        omega
      have hmem0 : w.heap.size ∉ [w.heap.size + 1, w2.drew.heap.size] := by
        have h2 := blk_lt hk2
        simp only [List.mem_cons, List.not_mem_nil, or_false]
        omega
      go_upto_region 7 with fail
      go_region_held3 (fun w' => w'.cell? ⟨wr.heap.size, 0, none⟩ = some (.string (T j)) ∧ w'.cell? ⟨wr.heap.size, 1, none⟩ = some (.int .i64 k)) (first | exact ⟨e1, e2⟩ | exact ⟨blk_cell hq4 0, blk_cell hq4 1⟩ | exact ⟨blk_cell hq3 0, blk_cell hq3 1⟩ | go_keep)
        (first | (go_at_call 17; refine (newR_yes _ _ 0 (by omega) (by omega) (by omega)).mono ?_; rintro e w3 ⟨rfl, hw3⟩; have hW3 : IsW w.heap.size w3 (w.heap.size + 1) v (joinL T K j) := (by rw [hw3]; exact hW2.alloc _); have hR3 : IsR w.heap.size w3 w2.drew.heap.size (T j) 0 := (by rw [hw3]; exact isR_new w2.drew _ hz2 (T j) 0); have hq3 : Blk w3 wr.heap.size 54 #[.string (T j), .int .i64 k] := (by rw [hw3]; exact (Below.heap_alloc _ _ _ (blk_lt hq2)).trans hq2); have hk3 : Blk w3 w.heap.size 54 #[.string ⟨#[]⟩, .int .i64 0] := (by rw [hw3]; exact (Below.heap_alloc _ _ _ (blk_lt hk2)).trans hk2); have hbl3 : Below w.heap.size w w3 := (by rw [hw3]; exact hbl2.alloc hz2 _); clear hw3) | (go_at_call 33; refine (carry_ok _ _ _ _ _ _ _ 0 k hW3 hR3 (by omega) (by omega) (by omega)).mono ?_; rintro e w4 ⟨rfl, ⟨v4, hW4⟩, hR4, hS4⟩; have hq4 := hS4.blk hq3 hmem (by simp)))
      have hk4 := hS4.blk hk3 hmem0 (by simp)
      have hjn : joinL T K j ++ ((bitsB (T j).data.toList).drop 0).take k = joinL T K (j + 1) := by
        rw [joinL, HKK.out, Int.toNat_natCast, List.drop_zero]
      rw [hjn] at hW4
      have HJN := Lib.hid hjn
      clear hjn
      have hbl4 := hbl3.trans hS4.below
      go_wp2_with fail
      go_roundw
      case rel => exact ⟨j + 1, v4, h, by go_num, hW4, hk4, hbl4⟩
      case measure => simp [intOf]; omega
    · obtain rfl : j = j0 := by omega
      have hTj := totS_at T hjn0
      have hmay := may_walk (wr.alloc (.cells #[.string (T j), .int .i64 (K j)] 54)) (T j) (K j) (by omega) (hK j hjn0)
      rw [hbad] at hmay
      have g1 : wr.cell? ⟨b, off + j * 2, none⟩ = some (.string (T j)) := (hb.cell (p := ⟨b, off + j * 2, none⟩) hbB).trans (hc j hjn0).1
      have g2 : wr.cell? ⟨b, off + j * 2 + 1, none⟩ = some (.int .i64 (K j)) := (hb.cell (p := ⟨b, off + j * 2 + 1, none⟩) hbB).trans (hc j hjn0).2
      have HM := Lib.hid hmay
      have HB := Lib.hid hbad
      clear hmay hbad hc
      go_wp2_with fail
      refine HM.out.mono ?_
      rintro e w2 ⟨rfl, hb2⟩
      have hs2 := step_of_below hb2
      have hk2 : Blk w2 w.heap.size 54 #[.string ⟨#[]⟩, .int .i64 0] := hs2.blk ((Below.heap_alloc _ _ _ (blk_lt hk)).trans hk) (by simp) (by simp)
      have hbl2 : Below w.heap.size w w2 := (hb.alloc hz _).trans (hb2.mono (by simp; omega))
      have q0 : w2.cell? ⟨w.heap.size, 0, none⟩ = some (.string ⟨#[]⟩) := blk_cell hk2 0
      have q1 : w2.cell? ⟨w.heap.size, 1, none⟩ = some (.int .i64 0) := blk_cell hk2 1
      have f0 := blk_frozen hk2 0
      have f1 := blk_frozen hk2 1
      go_wp2_with fail
      refine bodyPost_ret (v := .tuple #[.agg #[.string ⟨#[]⟩, .int .i64 0], .int .i64 2]) ?_ rfl ⟨rfl, ?_⟩
      · simp [results, Try.results27, go_sem, q0, q1]
      · exact (hbl2.setCell (p := ⟨w.heap.size, 0, none⟩) (Nat.le_refl _) _).setCell (p := ⟨w.heap.size, 1, none⟩) (Nat.le_refl _) _

end Go.Proofs.Ytelgmihemnidkaa
