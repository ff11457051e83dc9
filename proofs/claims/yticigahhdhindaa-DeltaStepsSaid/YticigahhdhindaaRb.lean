/- The reference Bits tells the lowest bits of a number. No conditions but at most 64 bits. -/
import Derived.Test.YticigahhdhindaaI
namespace Go.Proofs.Yticigahhdhindaa
open Go.RowKit

set_option maxRecDepth 100000 in
theorem rbits_arg (w : World) (x n : Int) (hn : n < 0 ∨ 64 < n) : Calls Try.prog 31 #[.int .u64 x, .int .i64 n] w fun e w' => e = .returned (.tuple #[.slice none 0 0, .bool false]) ∧ w = w' := by
  rcases hn with hn | hn
  · go_enter Try.func31, Try.ntmps31
    go_wp2
    go_ret2
    exact ⟨rfl, rfl⟩
  · have h' : 0 ≤ n := by omega
    go_enter Try.func31, Try.ntmps31
    go_wp2
    go_ret2
    exact ⟨rfl, rfl⟩

def RBitsPost (w : World) (x n : Nat) (e : Ending) (w' : World) : Prop :=
  ∃ g cap, e = .returned (.tuple #[.slice (some ⟨g, 0, none⟩) n cap, .bool (decide (x < 2 ^ n))]) ∧ w'.ownsRow w.heap.size 3 1 (.slice (some ⟨g, 0, none⟩) n cap) n ((bitsN x n).map iv) ∧ Below w.heap.size w w'

theorem bitsN_front (x k : Nat) : bitsN x (k + 1) = (x / 2 ^ k % 2) :: bitsN x k := by
  rw [Nat.add_comm k 1, bitsN_add]
  rfl

set_option maxRecDepth 100000 in
theorem set_front (q k x : Nat) : ((List.replicate (q + 1) 0 ++ bitsN x k).map iv).set q (.int .i64 (x / 2 ^ k % 2 : Nat)) = (List.replicate q 0 ++ bitsN x (k + 1)).map iv := by
  have h1 : (List.replicate (q + 1) 0 ++ bitsN x k).map iv = List.replicate q (iv 0) ++ (iv 0 :: (bitsN x k).map iv) := by
    rw [List.replicate_succ', List.append_assoc, List.map_append, List.map_replicate]
    rfl
  rw [h1, List.set_append, if_neg (by simp), List.length_replicate, Nat.sub_self, bitsN_front, List.map_append, List.map_replicate]
  rfl

set_option maxRecDepth 100000 in
theorem rbits_any (w : World) (x n : Nat) (hx : x < 2 ^ 64) (hn : n ≤ 64) : Calls Try.prog 31 #[.int .u64 x, .int .i64 n] w (RBitsPost w x n) := by
  obtain ⟨i3, hi, hz0, hz1, hz2⟩ := info_parts Try.info3
  have HX := Lib.hid hx
  clear hx
  go_enter Try.func31, Try.ntmps31
  go_wp2_with (refine wpList_make_full w rfl _ _ 22 rfl w.heap.size 3 i3 (.int .i64 0) 1 Try.underlying22 hi hz0 hz1 .i64 .i64 _ _ n rfl rfl rfl rfl ?b2 ?b3 ?b4 ?_)
  case b2 => rw [hz2]; omega
  case b3 => unfold maxLen; omega
  case b4 => exact Nat.le_refl _
  intro w1 hown1 hgrow1
  have hb1 : Below w.heap.size w w1 := (Below.refl _ _).grown hgrow1 (Nat.le_refl _) (fun k hk => by cases hk)
  have hown2 : w1.ownsRow w.heap.size 3 1 (.slice (some ⟨w.heap.size, 0, none⟩) n n) n ((List.replicate n 0).map iv) := by
    have e : (madeCells #[Value.int .i64 0] n).toList = (List.replicate n 0).map iv := by
      rw [toList_madeCells_one, List.map_replicate]
      rfl
    rw [← e]
    exact hown1
  clear hown1 hgrow1
  go_wp2
  go_loopw [0, 7] (fun v i wr => ∃ r : Nat, r ≤ n ∧ i = .int .i64 ((r : Int) - 1) ∧ v = .int .u64 (x / 2 ^ (n - r) : Nat) ∧ wr.ownsRow w.heap.size 3 1 (.slice (some ⟨w.heap.size, 0, none⟩) n n) n ((List.replicate r 0 ++ bitsN x (n - r)).map iv) ∧ Below w.heap.size w wr) (fun _ i _ => (intOf i + 1).toNat)
  case atStart => exact ⟨n, Nat.le_refl _, rfl, by simp, by simpa [bitsN] using hown2, hb1⟩
  case round =>
    obtain ⟨r, hr, rfl, rfl, hown, hb⟩ := hrel
    have hy : x / 2 ^ (n - r) < 18446744073709551616 := Nat.lt_of_le_of_lt (Nat.div_le_self _ _) HX.out
    cases r with
    | zero =>
      have e1 : ((0 : Nat) : Int) - 1 = -1 := rfl
      rw [e1]
      clear e1
      simp only [Nat.sub_zero, List.replicate_zero, List.nil_append] at hown hy ⊢
      have hdec : ((x / 2 ^ n : Nat) : Int) = 0 ↔ x < 2 ^ n := by
        rw [← Nat.div_eq_zero_iff_lt (Nat.two_pow_pos n)]
        omega
      generalize x / 2 ^ n = y at *
      have HD := Lib.hid hdec
      clear hdec
      go_wp2
      go_ret2
      refine ⟨w.heap.size, n, ?_, hown, hb⟩
      show Ending.returned (Value.tuple #[_, .bool ((y : Int) == 0)]) = _
      have he : ((y : Int) == 0) = decide (x < 2 ^ n) := by
        rw [Bool.eq_iff_iff, beq_iff_eq, decide_eq_true_iff]
        exact HD.out
      rw [he]
      rfl
    | succ q =>
      have e1 : ((q + 1 : Nat) : Int) - 1 = (q : Int) := by omega
      rw [e1]
      clear e1
      have h1 := hown.cellAt q (by omega)
      have h2 := hown.frozenAt q
      rw [List.getElem?_map, List.getElem?_append_left (by rw [List.length_replicate]; omega), List.getElem?_replicate, if_pos (by omega)] at h1
      simp [iv] at h1
      have hnext : x / 2 ^ (n - (q + 1)) / 2 = x / 2 ^ (n - q) := by rw [Nat.div_div_eq_div_mul, ← Nat.pow_succ, Nat.succ_eq_add_one, show n - (q + 1) + 1 = n - q by omega]
      have hst := (hown.stored q (.int .i64 (x / 2 ^ (n - (q + 1)) % 2 : Nat))).1
      have hset : ((List.replicate (q + 1) 0 ++ bitsN x (n - (q + 1))).map iv).set q (.int .i64 (x / 2 ^ (n - (q + 1)) % 2 : Nat)) = (List.replicate q 0 ++ bitsN x (n - q)).map iv := by
        rw [show n - q = n - (q + 1) + 1 by omega]
        exact set_front q _ x
      rw [hset] at hst
      generalize x / 2 ^ (n - (q + 1)) = y at *
      have HN := Lib.hid hnext
      clear hnext hset
      have hcast : ((y % 2 : Nat) : Int) = (y : Int) % 2 := by omega
      rw [hcast] at hst
      have HC := Lib.hid hcast
      clear hcast
      go_wp2
      go_roundw
      case rel => exact ⟨q, by omega, rfl, by rw [← HN.out, Int.natCast_ediv]; rfl, hst, hb.setCell (p := ⟨w.heap.size, q, none⟩) (Nat.le_refl _) _⟩
      case measure => simp [intOf]

end Go.Proofs.Yticigahhdhindaa
