/- carry puts the next bits of a reader behind those of a writer; Slice tells the bits of a piece, or refuses. Conditions: at most 10^11 bits. -/
import Derived.Test.YtelgmihemnidkaaQ
import Derived.Deep.RegionHeld3
namespace Go.Proofs.Ytelgmihemnidkaa
open Go.RowKit

theorem take_more (l : List Nat) (a i k : Nat) : (l.drop a).take (i + k) = (l.drop a).take i ++ (l.drop (a + i)).take k := by
  rw [List.take_add, List.drop_drop]

theorem bitsN_took (l : List Nat) (a k : Nat) (hb : Bit01 l) (h : a + k ≤ l.length) : bitsN (val ((l.drop a).take k)) k = (l.drop a).take k := by
  have h1 := bitsN_val ((l.drop a).take k) ((hb.drop a).take k)
  rwa [List.length_take, List.length_drop, Nat.min_eq_left (by omega)] at h1

def CarryPost (B : Nat) (w : World) (p q : Nat) (L : List Nat) (s : ByteArray) (a m : Nat) (e : Ending) (w' : World) : Prop :=
  e = .returned (.tuple #[]) ∧ (∃ v', IsW B w' p v' (L ++ ((bitsB s.data.toList).drop a).take m)) ∧ IsR B w' q s (a + m) ∧ Step B [p, q] [5] w w'

set_option maxHeartbeats 800000 in
theorem carry_ok (B : Nat) (w : World) (p q : Nat) (v : Value) (L : List Nat) (s : ByteArray) (a m : Nat) (hW : IsW B w p v L) (hR : IsR B w q s a) (hs : s.size ≤ 281474976710656) (ham : a + m ≤ 8 * s.size) (hL : L.length + m ≤ 1000000000000) :
    Calls Try.prog 33 #[.pointer (some ⟨p, 0, none⟩), .pointer (some ⟨q, 0, none⟩), .int .i64 m] w (CarryPost B w p q L s a m) := by
  have hbl : (bitsB s.data.toList).length = 8 * s.size := by rw [bitsB_length]; rfl
  have HBL := Lib.hid hbl
  clear hbl
  go_enter Try.func33, Try.ntmps33
  go_wp2
  go_loopw [2] (fun i wr => ∃ (r : Nat) (v' : Value), r ≤ m ∧ i = .int .i64 r ∧ IsW B wr p v' (L ++ ((bitsB s.data.toList).drop a).take (m - r)) ∧ IsR B wr q s (a + (m - r)) ∧ Step B [p, q] [5] w wr) (fun i _ => (intOf i).toNat)
  case atStart => exact ⟨m, v, Nat.le_refl _, rfl, by simpa using hW, by simpa using hR, Step.refl _ _ _ _⟩
  case round =>
    obtain ⟨r, v', hr, rfl, hW1, hR1, hS⟩ := hrel
    have hlen : (L ++ ((bitsB s.data.toList).drop a).take (m - r)).length ≤ 1000000000000 := by
      rw [List.length_append, List.length_take]; omega
    by_cases h : 0 < r
    · by_cases h64 : r ≤ 64
      · have hT := take_ok B wr q s (a + (m - r)) r hR1 hs h64 (by omega)
        have hx : val (((bitsB s.data.toList).drop (a + (m - r))).take r) < 2 ^ r := val_take_lt _ _ _ _ (bit01_bitsB _) (Nat.le_refl _)
        have hbk := bitsN_took (bitsB s.data.toList) (a + (m - r)) r (bit01_bitsB _) (by rw [HBL.out]; omega)
        generalize val (((bitsB s.data.toList).drop (a + (m - r))).take r) = x at *
        have HT := Lib.hid hT
        have HB := Lib.hid hbk
        clear hT hbk
        go_wp2_with fail
        refine HT.out.mono ?_
        rintro e w2 ⟨rfl, hR2, hS2⟩
        have hW2 := hW1.take hR1 hS2
        go_wp2_with fail
        refine (put_ok _ _ _ _ _ _ _ hW2 hlen h64 hx).mono ?_
        rintro e w3 ⟨rfl, v3, hW3, hS3⟩
        have hR3 := hR2.put hW2 hS3
        have hSS := (hS.trans (hS2.mono (Nat.le_refl _) (by simp) (by simp))).trans (hS3.mono (Nat.le_refl _) (by simp) (by simp))
        rw [HB.out, List.append_assoc, ← take_more, show m - r + r = m - 0 by omega] at hW3
        rw [Nat.add_assoc, show m - r + r = m - 0 by omega] at hR3
        go_wp2_with fail
        go_roundw
        case rel => exact ⟨0, v3, Nat.zero_le _, rfl, hW3, hR3, hSS⟩
        case measure => simp [intOf]; omega
      · have h64' : 64 < r := by omega
        have hT := take_ok B wr q s (a + (m - r)) 64 hR1 hs (Nat.le_refl _) (by omega)
        have hx : val (((bitsB s.data.toList).drop (a + (m - r))).take 64) < 2 ^ 64 := val_take_lt _ _ _ _ (bit01_bitsB _) (Nat.le_refl _)
        have hbk := bitsN_took (bitsB s.data.toList) (a + (m - r)) 64 (bit01_bitsB _) (by rw [HBL.out]; omega)
        generalize val (((bitsB s.data.toList).drop (a + (m - r))).take 64) = x at *
        have HT : Hid (Calls Try.prog 21 #[.pointer (some ⟨q, 0, none⟩), .int .i64 64] wr (TakePost B wr q s (a + (m - r)) 64 x 0)) := Lib.hid hT
        have HB := Lib.hid hbk
        clear hT hbk h64
        go_wp2_with fail
        refine HT.out.mono ?_
        rintro e w2 ⟨rfl, hR2, hS2⟩
        have hW2 := hW1.take hR1 hS2
        have hP : Calls Try.prog 13 #[.pointer (some ⟨p, 0, none⟩), .int .u64 x, .int .i64 64] w2 _ := put_ok _ _ _ _ _ _ 64 hW2 hlen (Nat.le_refl _) hx
        have HP := Lib.hid hP
        clear hP
        go_wp2_with fail
        refine HP.out.mono ?_
        rintro e w3 ⟨rfl, v3, hW3, hS3⟩
        have hR3 := hR2.put hW2 hS3
        have hSS := (hS.trans (hS2.mono (Nat.le_refl _) (by simp) (by simp))).trans (hS3.mono (Nat.le_refl _) (by simp) (by simp))
        rw [HB.out, List.append_assoc, ← take_more, show m - r + 64 = m - (r - 64) by omega] at hW3
        rw [Nat.add_assoc, show m - r + 64 = m - (r - 64) by omega] at hR3
        go_wp2_with fail
        go_roundw
        case rel =>
          have hint : ((r - 64 : Nat) : Int) = (r : Int) - 64 := by omega
          exact ⟨r - 64, v3, by omega, by rw [hint], hW3, hR3, hSS⟩
        case measure => simp [intOf]; omega
    · obtain rfl : r = 0 := by omega
      rw [Nat.sub_zero] at hW1 hR1
      go_wp2
      go_end0
      exact ⟨rfl, ⟨v', hW1⟩, hR1, hS⟩

def SlicePost (w : World) (t : List UInt8) (n r : Nat) (e : Ending) (w' : World) : Prop :=
  e = .returned (.tuple #[.agg #[.string ⟨t.toArray⟩, .int .i64 n], .int .i64 r]) ∧ Below w.heap.size w w'

theorem slice_ok (w : World) (s : ByteArray) (a m : Nat) (hs : s.size ≤ 1000000) (ham : a + m ≤ 8 * s.size) :
    Calls Try.prog 25 #[.string s, .int .i64 a, .int .i64 m] w (SlicePost w (pack (((bitsB s.data.toList).drop a).take m)) m 0) := by
  go_enter Try.func25, Try.ntmps25
  go_wp2_with fail
  refine (newR_yes _ s a (by omega) (by omega) (by omega)).mono ?_
  rintro e w1 ⟨rfl, hw1⟩
  have hR1 : IsR w.heap.size w1 (w.heap.size + 1) s a := by
    have := isR_new (w.alloc (.cells #[.string ⟨#[]⟩, .int .i64 0] 54)) w.heap.size (by simp) s a
    rw [hw1]
    simpa using this
  have hb0 : Blk w1 w.heap.size 54 #[.string ⟨#[]⟩, .int .i64 0] := by
    rw [hw1]
    exact (Below.heap_alloc _ _ _ (by simp)).trans (blk_new w 54 _)
  have hb1 : Below w.heap.size w w1 := by
    rw [hw1]
    exact ((Below.refl _ _).alloc (Nat.le_refl _) _).alloc (by simp) _
  have hz1 : w1.heap.size = w.heap.size + 2 := by rw [hw1]; simp
  have hsz : (World.alloc w (.cells #[.string ⟨#[]⟩, .int .i64 0] 54)).heap.size = w.heap.size + 1 := by simp
  rw [hsz]
  have HW1 := Lib.hid hw1
  have HZ1 := Lib.hid hz1
  clear hw1 hsz hz1
  go_wp2_with fail
  refine (leftR hR1 (by omega) (by omega)).mono ?_
  rintro e w' ⟨rfl, kk, rfl⟩
  have hR2 : IsR w.heap.size (w1.drewN kk) (w.heap.size + 1) s a := ⟨hR1.lo, hR1.blk⟩
  have hb2 : Blk (w1.drewN kk) w.heap.size 54 #[.string ⟨#[]⟩, .int .i64 0] := hb0
  have hbl2 : Below w.heap.size w (w1.drewN kk) := below_drewN hb1 kk
  have hz2 : (w1.drewN kk).heap.size = w.heap.size + 2 := HZ1.out
  generalize w1.drewN kk = w2 at *
  have HZ2 := Lib.hid hz2
  clear hz2
  go_wp2_with fail
  refine (newW _).mono ?_
  rw [HZ2.out]
  rintro e w3 ⟨rfl, hw3⟩
  have hW3 : IsW w.heap.size w3 (w.heap.size + 2) (.slice none 0 0) [] := by
    have := isW_new w2 w.heap.size (by rw [HZ2.out]; omega)
    rw [hw3]
    rwa [HZ2.out] at this
  have hR3 := hR2.alloc (.cells #[.bool true, .slice none 0 0, .int .i64 0] 69)
  have hb3 : Blk w3 w.heap.size 54 #[.string ⟨#[]⟩, .int .i64 0] := by
    rw [hw3]
    exact (Below.heap_alloc _ _ _ (blk_lt hb2)).trans hb2
  have hbl3 : Below w.heap.size w w3 := by rw [hw3]; exact hbl2.alloc hbl2.size _
  rw [← hw3] at hR3
  have HW3 := Lib.hid hw3
  clear hw3
  go_wp2_with fail
  refine (carry_ok _ _ _ _ _ _ s a m hW3 hR3 (by omega) ham (by simp; omega)).mono ?_
  rintro e w4 ⟨rfl, ⟨v4, hW4⟩, hR4, hS4⟩
  rw [List.nil_append] at hW4
  have hb4 := hS4.blk hb3 (by simp) (by simp)
  have hbl4 := hbl3.trans hS4.below
  go_wp2_with fail
  refine (wtext_yes _ _ _ _ _ hW4).mono ?_
  rintro e w' ⟨rfl, rfl⟩
  have q0 : w4.cell? ⟨w.heap.size, 0, none⟩ = some (.string ⟨#[]⟩) := blk_cell hb4 0
  have q1 : w4.cell? ⟨w.heap.size, 1, none⟩ = some (.int .i64 0) := blk_cell hb4 1
  have f0 := blk_frozen hb4 0
  have f1 := blk_frozen hb4 1
  have hzz := hbl4.size
  go_wp2_with fail
  refine bodyPost_ret (v := .tuple #[.agg #[.string ⟨(pack (((bitsB s.data.toList).drop a).take m)).toArray⟩, .int .i64 m], .int .i64 0]) ?_ rfl ⟨rfl, ?_⟩
  · simp [results, Try.results25, go_sem, q0, q1]
  · exact (hbl4.setCell (p := ⟨w.heap.size, 0, none⟩) (Nat.le_refl _) _).setCell (p := ⟨w.heap.size, 1, none⟩) (Nat.le_refl _) _

end Go.Proofs.Ytelgmihemnidkaa
