/- The document's own readers of bits, Number, Unary and Take, tell what stands in a list of bits. Conditions: the list has at most 10^12 bits. -/
import Derived.Test.YtelgmihemnidkaaS
import Derived.LoopTactic
import Derived.Deep.LoopGhost
import Derived.Lib.Hide
import Derived.Outline
import Derived.Laws.BitsAllLaws
namespace Go.Proofs.Ytelgmihemnidkaa
open Go.RowKit

def iv (b : Nat) : Value := .int .i64 b

/-- The slice '.slice A n c' of ints holds the numbers L. -/
def IntsIn (w : World) (A : Option Addr) (n : Nat) (L : List Nat) : Prop :=
  L.length = n ∧ (0 < n → ∃ b off, A = some ⟨b, off, none⟩ ∧ ∀ i, i < n → w.cell? ⟨b, off + i, none⟩ = some (.int .i64 (L.getD i 0)))

theorem number_any (w : World) (A : Option Addr) (n c : Nat) (L : List Nat) (h : IntsIn w A n L) (hb : Bit01 L) (hn : n ≤ 64) :
    Calls Try.prog 32 #[.slice A n c] w fun e w' => e = .returned (.int .u64 (val L)) ∧ w = w' := by
  have HI := Lib.hid h
  clear h
  go_enter Try.func32, Try.ntmps32
  go_wp2
  go_loop [3, 4] (fun v i => ∃ j x : Nat, j ≤ n ∧ i = .int .i64 j ∧ v = .int .u64 x ∧ x = val (L.take j)) (fun _ i => n - (intOf i).toNat)
  case atStart => exact ⟨0, 0, Nat.zero_le _, rfl, rfl, by simp [val]⟩
  case round =>
    obtain ⟨j, x, hj, rfl, rfl, hx⟩ := hrel
    by_cases h : j < n
    · obtain ⟨hl, hc⟩ := HI.out
      have HL := Lib.hid hl
      clear hl
      obtain ⟨b, off, rfl, hc'⟩ := hc (by omega)
      have hc1 := hc' j h
      have hx2 : x < 9223372036854775808 := by
        rw [hx]
        refine Nat.lt_of_lt_of_le (val_lt _ (hb.take j)) (Nat.le_trans (Nat.pow_le_pow_right (by omega) (show (L.take j).length ≤ 63 by rw [List.length_take]; omega)) (by decide))
      obtain ⟨y, hy⟩ : ∃ y, y = L.getD j 0 := ⟨_, rfl⟩
      rw [← hy] at hc1
      have hy2 : y < 2 := by
        rw [hy, List.getD_eq_getElem?_getD, List.getElem?_eq_getElem (by rw [HL.out]; exact h)]
        exact hb _ (List.getElem_mem _)
      have HX := Lib.hid hx; clear hx
      have HY := Lib.hid hy; clear hy
      clear hc hc'
      go_wp2
      go_round
      case rel =>
        refine ⟨j + 1, 2 * x + y, h, rfl, ?_, ?_⟩
        · congr 1; omega
        · rw [HX.out, HY.out, List.take_succ_eq_append_getElem (by rw [HL.out]; exact h), val_snoc, List.getD_eq_getElem?_getD, List.getElem?_eq_getElem (by rw [HL.out]; exact h)]
          rfl
      case measure => simp [intOf]; omega
    · obtain rfl : j = n := by omega
      have HX := Lib.hid hx; clear hx
      go_wp2
      go_ret
      refine ⟨?_, rfl⟩
      rw [HX.out, List.take_of_length_le (by rw [HI.out.1]; exact Nat.le_refl _)]
      rfl

theorem rtake_arg (w : World) (A : Option Addr) (n c : Nat) (a k : Int) (hk : k < 0 ∨ 64 < k) :
    Calls Try.prog 22 #[.slice A n c, .int .i64 a, .int .i64 k] w fun e w' => e = .returned (.tuple #[.int .u64 0, .int .i64 2]) ∧ w = w' := by
  rcases hk with hk | hk
  · go_enter Try.func22, Try.ntmps22
    go_wp2
    go_ret2
    exact ⟨rfl, rfl⟩
  · have h' : 0 ≤ k := by omega
    go_enter Try.func22, Try.ntmps22
    go_wp2
    go_ret2
    exact ⟨rfl, rfl⟩

theorem rtake_short (w : World) (A : Option Addr) (n c : Nat) (a k : Nat) (_hn : n ≤ 1000000000000) (_ha : a ≤ n) (hk : k ≤ 64) (_h : n < a + k) :
    Calls Try.prog 22 #[.slice A n c, .int .i64 a, .int .i64 k] w fun e w' => e = .returned (.tuple #[.int .u64 0, .int .i64 10]) ∧ w = w' := by
  go_enter Try.func22, Try.ntmps22
  go_wp2
  go_ret2
  exact ⟨rfl, rfl⟩

theorem IntsIn.nil {w : World} {A : Option Addr} {n k a : Nat} {L : List Nat} (h : IntsIn w A n L) (hk : k = 0) (_hak : a + k ≤ n) : IntsIn w A k ((L.drop a).take k) := by
  have := h.1
  subst hk
  exact ⟨by simp, fun h => by omega⟩

theorem IntsIn.cut {w : World} {A : Option Addr} {n k a : Nat} {L : List Nat} (h : IntsIn w A n L) (hak : a + k ≤ n) : IntsIn w (Option.map (fun x => x.add a) A) k ((L.drop a).take k) := by
  refine ⟨by rw [List.length_take, List.length_drop, h.1]; omega, fun hk => ?_⟩
  obtain ⟨b, off, rfl, hc⟩ := h.2 (by omega)
  refine ⟨b, off + a, by rw [Option.map_some, Addr.add_lit], fun i hi => ?_⟩
  rw [Nat.add_assoc, hc (a + i) (by omega), List.getD_eq_getElem?_getD, List.getD_eq_getElem?_getD, List.getElem?_take, if_pos hi, List.getElem?_drop]

theorem rtake_ok (w : World) (A : Option Addr) (n c : Nat) (L : List Nat) (a k : Nat) (hi : IntsIn w A n L) (hb : Bit01 L) (hc : n ≤ c) (hn : c ≤ maxLen) (hk : k ≤ 64) (hak : a + k ≤ n) :
    Calls Try.prog 22 #[.slice A n c, .int .i64 a, .int .i64 k] w fun e w' => e = .returned (.tuple #[.int .u64 (val ((L.drop a).take k)), .int .i64 0]) ∧ w = w' := by
  unfold maxLen at hn
  have hb2 := hb.drop a
  go_enter Try.func22, Try.ntmps22
  go_wp2_with fail
  · refine (number_any w A k 0 ((L.drop a).take k) (hi.nil (by omega) hak) (hb2.take k) hk).mono ?_
    rintro e w' ⟨rfl, rfl⟩
    go_wp2_with fail
    go_ret2
    exact ⟨rfl, rfl⟩
  · refine (number_any w (Option.map (fun x => x.add a) A) k (c - a) ((L.drop a).take k) (hi.cut hak) (hb2.take k) hk).mono ?_
    rintro e w' ⟨rfl, rfl⟩
    go_wp2_with fail
    go_ret2
    exact ⟨rfl, rfl⟩

theorem runary_arg (w : World) (A : Option Addr) (n c : Nat) (a k : Int) (hk : k < 0) :
    Calls Try.prog 20 #[.slice A n c, .int .i64 a, .int .i64 k] w fun e w' => e = .returned (.tuple #[.int .i64 0, .int .i64 2]) ∧ w = w' := by
  go_enter Try.func20, Try.ntmps20
  go_wp2
  go_ret2
  exact ⟨rfl, rfl⟩

theorem ones_at {L r : List Nat} {a m j : Nat} (h : L.drop a = List.replicate m 1 ++ r) (hj : j < m) : L.getD (a + j) 0 = 1 := by
  have h1 : L[a + j]? = (L.drop a)[j]? := by rw [List.getElem?_drop]
  rw [List.getD_eq_getElem?_getD, h1, h, List.getElem?_append_left (by simpa using hj), List.getElem?_replicate, if_pos hj]
  rfl

theorem zero_at {L r : List Nat} {a m : Nat} (h : L.drop a = List.replicate m 1 ++ 0 :: r) : L.getD (a + m) 0 = 0 ∧ a + m < L.length := by
  have h1 : L[a + m]? = (L.drop a)[m]? := by rw [List.getElem?_drop]
  have h2 := congrArg List.length h
  simp at h2
  refine ⟨?_, by omega⟩
  rw [List.getD_eq_getElem?_getD, h1, h, List.getElem?_append_right (by simp)]
  simp

/-- What Unary answers where m ones stand ahead, and then what 'r' says: a 0 bit, nothing, or one 1 bit too many. -/
theorem runary_any (w : World) (A : Option Addr) (n c : Nat) (L : List Nat) (a m most x y : Nat) (hi : IntsIn w A n L) (hn : n ≤ 1000000000000) (ha : a ≤ n) (hmost : (most : Int) ≤ 9223372036854775807)
    (h : (∃ r, m ≤ most ∧ L.drop a = List.replicate m 1 ++ 0 :: r ∧ x = m ∧ y = 0) ∨ (m ≤ most ∧ L.drop a = List.replicate m 1 ∧ x = 0 ∧ y = 10) ∨ (∃ r, m = most ∧ L.drop a = List.replicate (most + 1) 1 ++ r ∧ x = 0 ∧ y = 3)) :
    Calls Try.prog 20 #[.slice A n c, .int .i64 a, .int .i64 most] w fun e w' => e = .returned (.tuple #[.int .i64 x, .int .i64 y]) ∧ w = w' := by
  have hm : m ≤ most ∧ a + m ≤ n := by
    have hl := hi.1
    rcases h with ⟨r, h1, h2, _⟩ | ⟨h1, h2, _⟩ | ⟨r, h1, h2, _⟩
    · have := (zero_at h2).2; omega
    · have := congrArg List.length h2; rw [List.length_drop, List.length_replicate] at this; omega
    · have := congrArg List.length h2; rw [List.length_drop, List.length_append, List.length_replicate] at this; omega
  obtain ⟨hm, ham⟩ := hm
  have H := Lib.hid h
  have HI := Lib.hid hi
  clear h hi
  go_enter Try.func20, Try.ntmps20
  go_wp2
  go_loop [8] (fun i => ∃ j : Nat, j ≤ m ∧ i = .int .i64 j) (fun i => n - (intOf i).toNat)
  case atStart => exact ⟨0, Nat.zero_le _, rfl⟩
  case round =>
    obtain ⟨j, hj, rfl⟩ := hrel
    by_cases h : j < m
    · have hone : L.getD (a + j) 0 = 1 := by
        rcases H.out with ⟨r, h1, h2, _⟩ | ⟨h1, h2, _⟩ | ⟨r, h1, h2, _⟩
        · exact ones_at h2 h
        · exact ones_at (r := []) (by rw [List.append_nil]; exact h2) h
        · exact ones_at h2 (by omega)
      obtain ⟨hl, hc⟩ := HI.out
      have HL := Lib.hid hl
      clear hl
      obtain ⟨b, off, rfl, hc'⟩ := hc (by omega)
      have hc1 := hc' (a + j) (by omega)
      rw [hone] at hc1
      have hjm : ((j : Int) == (most : Int)) = false := by rw [beq_eq_false_iff_ne]; omega
      have HO := Lib.hid hone
      clear hone hc hc'
      go_wp2
      go_round
      case rel => exact ⟨j + 1, h, by go_num⟩
      case measure => simp [intOf]; omega
    · obtain rfl : j = m := by omega
      obtain ⟨hl, hc⟩ := HI.out
      have HL := Lib.hid hl
      clear hl
      rcases H.out with ⟨r, h1, h2, hx, rfl⟩ | ⟨h1, h2, rfl, rfl⟩ | ⟨r, hm3, h2, rfl, rfl⟩
      · have hz := zero_at h2
        have H2 := Lib.hid h2
        clear h2
        obtain ⟨b, off, rfl, hc'⟩ := hc (by have := HL.out; omega)
        have hc1 := hc' (a + j) (by have := HL.out; omega)
        rw [hz.1] at hc1
        have hlt : a + j < n := by have := HL.out; omega
        clear hc hc' hz
        have HX := Lib.hid hx
        clear hx
        go_wp2
        go_ret2
        exact ⟨by rw [HX.out]; rfl, rfl⟩
      · have hlt : ¬ (j : Int) < (n : Int) - a := by
          have := congrArg List.length h2; rw [List.length_drop, List.length_replicate] at this; have := HL.out; omega
        have H2 := Lib.hid h2
        clear h2 hc
        go_wp2
        go_ret2
        exact ⟨rfl, rfl⟩
      · obtain rfl : j = most := hm3
        have hone := ones_at h2 (show j < j + 1 by omega)
        have hlt : a + j < n := by
          have := congrArg List.length h2; rw [List.length_drop, List.length_append, List.length_replicate] at this; have := HL.out; omega
        have H2 := Lib.hid h2
        clear h2
        obtain ⟨b, off, rfl, hc'⟩ := hc (by omega)
        have hc1 := hc' (a + j) (by omega)
        rw [hone] at hc1
        clear hc hc' hone
        go_wp2
        go_ret2
        exact ⟨rfl, rfl⟩

end Go.Proofs.Ytelgmihemnidkaa
