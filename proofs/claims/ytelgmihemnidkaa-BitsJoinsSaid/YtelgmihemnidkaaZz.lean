/- The law BitsJoins, for every list of pieces: pieces joined are the document's, or refused. No conditions. -/
import Derived.Test.YtelgmihemnidkaaJ
import Derived.SizedLaws
namespace Go.Proofs.Ytelgmihemnidkaa
open Go.RowKit

theorem join_both (A : Option Addr) (n c : Nat) (T : Nat → ByteArray) (K : Nat → Int) (hn : n ≤ maxLen)
    (htot : totS T n ≤ 2000) (hK : ∀ i, i < n → -9223372036854775808 ≤ K i ∧ K i ≤ 9223372036854775807) :
    ∃ t m r, (∀ w, PairsIn w w.heap.size A n (fun i => .string (T i)) (fun i => .int .i64 (K i)) → Calls Try.prog 27 #[.slice A n c] w (SlicePost w t m r)) ∧
      ∀ w, PairsIn w w.heap.size A n (fun i => .string (T i)) (fun i => .int .i64 (K i)) → Calls Try.prog 28 #[.slice A n c] w (SlicePost w t m r) := by
  rcases first_bad (fun i => mayB (T i) (K i)) n with hall | ⟨j, hj, hbad, hall⟩
  · exact ⟨_, _, 0, fun w hp => join_ok w A n c T K hp hn htot hK hall, fun w hp => rjoin_ok w A n c T K hp hn htot hK hall⟩
  · exact ⟨[], 0, 2, fun w hp => join_bad w A n c T K hp hn htot hK j hj hbad hall, fun w hp => rjoin_bad w A n c T K hp hn htot hK j hj hbad hall⟩

theorem PairsIn.wide {w : World} {B B' : Nat} {A : Option Addr} {n : Nat} {X Y : Nat → Value} (h : PairsIn w B A n X Y) (hB : B ≤ B') : PairsIn w B' A n X Y := by
  intro hn
  obtain ⟨b, off, hA, hb, hc⟩ := h hn
  exact ⟨b, off, hA, by omega, hc⟩

/-- At most 2000 bytes: both join. -/
theorem joins_walk (w : World) (A : Option Addr) (n c : Nat) (T : Nat → ByteArray) (K : Nat → Int) (hp : PairsIn w w.heap.size A n (fun i => .string (T i)) (fun i => .int .i64 (K i))) (hn : n ≤ maxLen)
    (hT : ∀ i, i < n → (T i).size ≤ 140737488355328) (htot : totS T n ≤ 2000) (hK : ∀ i, i < n → -9223372036854775808 ≤ K i ∧ K i ≤ 9223372036854775807) :
    Calls Try.prog 6 #[.slice A n c] w fun e w' => e = .returned (.bool true) ∧ Below w.heap.size w w' := by
  obtain ⟨t, m, r, h1, h2⟩ := join_both A n c T K hn htot hK
  unfold maxLen at hn
  have H1 := Lib.hid h1
  have H2 := Lib.hid h2
  have HP := Lib.hid hp
  clear h1 h2 hp
  generalize hS : (ByteArray.mk t.toArray) = S
  have HS := Lib.hid hS
  clear hS
  have heq := bits_eql S m
  have hg54 := guard54
  go_enter Try.func6, Try.ntmps6
  go_wp2_with fail
  go_loop [3, 4] (fun x i => ∃ j : Nat, j ≤ n ∧ i = .int .i64 j ∧ x = .int .i64 (totS T j)) (fun _ i => n - (intOf i).toNat)
  case atStart => exact ⟨0, Nat.zero_le _, rfl, rfl⟩
  case round =>
    obtain ⟨j, hj, rfl, rfl⟩ := hrel
    have hjt := totS_mono T hj
    by_cases h : j < n
    · obtain ⟨b, off, rfl, hbB, hc⟩ := HP.out (by omega)
      have g1 : w.cell? ⟨b, off + j * 2, none⟩ = some (.string (T j)) := (hc j h).1
      have hTj := totS_at T h
      have hnext : totS T (j + 1) = totS T j + (T j).size := rfl
      have hle := totS_mono T (show j + 1 ≤ n from h)
      have hsum : totS T j + (T j).size ≤ 2000 := by omega
      generalize totS T j = X at *
      have HN := Lib.hid hnext
      clear hnext hc
      go_wp2
      go_round
      case rel => exact ⟨j + 1, h, by go_num, by rw [HN.out]; congr 1⟩
      case measure => simp [intOf]; omega
    · obtain rfl : j = n := by omega
      go_wp2_with fail
      refine (H1.out _ HP.out).mono ?_
      rintro e w1 ⟨rfl, hb1⟩
      rw [HS.out]
      have hz1 := hb1.size
      have hp1 : PairsIn (w1.alloc (.cells #[.string S, .int .i64 m] 54)) (w1.alloc (.cells #[.string S, .int .i64 m] 54)).heap.size A j (fun i => .string (T i)) (fun i => .int .i64 (K i)) :=
        (HP.out.below (hb1.alloc hz1 _)).wide (by simp; omega)
      have HP1 := Lib.hid hp1
      clear hp1
      go_wp2_with fail
      refine (H2.out _ HP1.out).mono ?_
      rintro e w2 ⟨rfl, hb2⟩
      rw [HS.out]
      have hk : Blk w2 w1.heap.size 54 #[.string S, .int .i64 m] := (step_of_below hb2).blk (blk_new w1 54 _) (by simp) (by simp)
      have hbl : Below w.heap.size w w2 := (hb1.alloc hz1 _).trans (hb2.mono (by simp; omega))
      have hz2 := hbl.size
      have hlt : w1.heap.size < w2.heap.size := blk_lt hk
      have q0 : w2.cell? ⟨w1.heap.size, 0, none⟩ = some (.string S) := blk_cell hk 0
      have q1 : w2.cell? ⟨w1.heap.size, 1, none⟩ = some (.int .i64 m) := blk_cell hk 1
      go_wp2_with (go_at_call 10; refine (awake_any _).mono ?_; rintro e w' ⟨rfl, hbw⟩)
      go_ret
      exact ⟨rfl, (hbl.alloc hz2 _).trans (hbw.mono (by simp; omega))⟩

/-- The first piece at which the texts have more than 2000 bytes. -/
theorem first_big (T : Nat → ByteArray) (n : Nat) (h : 2000 < totS T n) : ∃ j, j < n ∧ totS T j ≤ 2000 ∧ 2000 < totS T (j + 1) := by
  induction n with
  | zero => simp [totS] at h
  | succ n ih =>
    by_cases h1 : 2000 < totS T n
    · obtain ⟨j, h2, h3⟩ := ih h1
      exact ⟨j, by omega, h3⟩
    · exact ⟨n, by omega, by omega, h⟩

theorem joins_big (w : World) (A : Option Addr) (n c : Nat) (T : Nat → ByteArray) (K : Nat → Int) (hp : PairsIn w w.heap.size A n (fun i => .string (T i)) (fun i => .int .i64 (K i))) (hn : n ≤ maxLen)
    (hT : ∀ i, i < n → (T i).size ≤ 140737488355328) (htot : 2000 < totS T n) :
    Calls Try.prog 6 #[.slice A n c] w fun e w' => e = .returned (.bool true) ∧ Below w.heap.size w w' := by
  obtain ⟨j0, hj0, h1, h2⟩ := first_big T n htot
  unfold maxLen at hn
  have HP := Lib.hid hp
  clear hp
  go_enter Try.func6, Try.ntmps6
  go_wp2_with fail
  go_loop [3, 4] (fun x i => ∃ j : Nat, j ≤ j0 ∧ i = .int .i64 j ∧ x = .int .i64 (totS T j)) (fun _ i => n - (intOf i).toNat)
  case atStart => exact ⟨0, Nat.zero_le _, rfl, rfl⟩
  case round =>
    obtain ⟨j, hj, rfl, rfl⟩ := hrel
    have hjt := totS_mono T hj
    have hjn : j < n := by omega
    obtain ⟨b, off, rfl, hbB, hc⟩ := HP.out (by omega)
    have g1 : w.cell? ⟨b, off + j * 2, none⟩ = some (.string (T j)) := (hc j hjn).1
    have hTj := hT j hjn
    have hnext : totS T (j + 1) = totS T j + (T j).size := rfl
    by_cases h : j < j0
    · have hle := totS_mono T (show j + 1 ≤ j0 from h)
      have hsum : totS T j + (T j).size ≤ 2000 := by omega
      generalize totS T j = X at *
      have HN := Lib.hid hnext
      clear hnext hc
      go_wp2
      go_round
      case rel => exact ⟨j + 1, h, by go_num, by rw [HN.out]; congr 1⟩
      case measure => simp [intOf]; omega
    · obtain rfl : j = j0 := by omega
      have hsum : 2000 < totS T j + (T j).size := by omega
      generalize totS T j = X at *
      have HN := Lib.hid hnext
      clear hnext hc
      go_wp2_with (go_at_call 10; refine (awake_any _).mono ?_; rintro e w' ⟨rfl, hbw⟩)
      go_ret
      exact ⟨rfl, hbw⟩

end Go.Proofs.Ytelgmihemnidkaa
