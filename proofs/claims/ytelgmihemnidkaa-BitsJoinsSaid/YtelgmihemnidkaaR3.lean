/- The document's own text of bits, Text, is the bits packed; its own bits of a number, Bits, are the number's lowest bits. Conditions: at most 10^9 bits. -/
import Derived.Test.YtelgmihemnidkaaR2
import Derived.Test.YtelgmihemnidkaaE
namespace Go.Proofs.Ytelgmihemnidkaa
open Go.RowKit

/-- Eight bits from bit number i on, filled up with 0 bits. -/
def eight (L : List Nat) (i : Nat) : List Nat := (L.drop i).take 8 ++ List.replicate (8 - ((L.drop i).take 8).length) 0

theorem eight_length (L : List Nat) (i : Nat) : (eight L i).length = 8 := by
  unfold eight
  rw [List.length_append, List.length_replicate]
  have : ((L.drop i).take 8).length ≤ 8 := by rw [List.length_take]; omega
  omega

theorem eight_get (L : List Nat) (i m : Nat) (hm : m < 8) : (eight L i)[m]? = some (L.getD (i + m) 0) := by
  unfold eight
  rw [List.getD_eq_getElem?_getD]
  by_cases h : i + m < L.length
  · rw [List.getElem?_append_left (by rw [List.length_take, List.length_drop]; omega), List.getElem?_take, if_pos hm, List.getElem?_drop, List.getElem?_eq_getElem h]
    rfl
  · rw [List.getElem?_append_right (by rw [List.length_take, List.length_drop]; omega), List.getElem?_replicate, if_pos (by rw [List.length_take, List.length_drop]; omega), List.getElem?_eq_none (by omega)]
    rfl

theorem eight_bits (L : List Nat) (i : Nat) (h : Bit01 L) : Bit01 (eight L i) := by
  refine ((h.drop i).take 8).append ?_
  intro b hb
  have := (List.mem_replicate.1 hb).2
  omega

theorem val_zeros (k : Nat) : val (List.replicate k 0) = 0 := by
  rw [← bitsN_zero, val_bitsN, Nat.zero_mod]

theorem pack_eight (L : List Nat) (j : Nat) (h : 8 * j < L.length) : pack (L.take (8 * (j + 1))) = pack (L.take (8 * j)) ++ [UInt8.ofNat (val (eight L (8 * j)))] := by
  rw [show 8 * (j + 1) = 8 * j + 8 by omega, List.take_add, pack_append j _ _ (by rw [List.length_take]; omega)]
  congr 1
  have hl : ((L.drop (8 * j)).take 8).length ≤ 8 := by rw [List.length_take]; omega
  rw [pack_short _ (by rw [List.length_take, List.length_drop]; omega) hl]
  unfold eight
  rw [val_append, val_zeros, List.length_replicate, Nat.add_zero]

theorem eight_next (L : List Nat) (i m : Nat) (hm : m < 8) : val ((eight L i).take (m + 1)) = 2 * val ((eight L i).take m) + L.getD (i + m) 0 := by
  rw [List.take_add_one, eight_get L i m hm]
  exact val_snoc _ _

theorem text_any (w : World) (A : Option Addr) (n c : Nat) (L : List Nat) (hi : IntsIn w A n L) (hb : Bit01 L) (hn : n ≤ 1000000000) :
    Calls Try.prog 16 #[.slice A n c] w fun e w' => e = .returned (.string ⟨(pack L).toArray⟩) ∧ Below w.heap.size w w' := by
  obtain ⟨i5, h5, hz0, hz1, hz2⟩ := info_parts Try.info5
  have hI : (0 < n → ∃ b off, A = some ⟨b, off, none⟩ ∧ b < w.heap.size ∧ ∀ i, i < n → w.cell? ⟨b, off + i, none⟩ = some (.int .i64 (L.getD i 0))) := fun h => by
    obtain ⟨b, off, hA, hc⟩ := hi.2 h
    exact ⟨b, off, hA, World.block_lt_of_cell? w _ (hc 0 h), hc⟩
  have HL := Lib.hid hi.1
  have HI := Lib.hid hI
  clear hi hI
  go_enter Try.func16, Try.ntmps16
  go_wp2
  go_loopw [3, 4] (fun v i wr => ∃ j : Nat, 8 * j ≤ n + 7 ∧ i = .int .i64 (8 * j : Nat) ∧ wr.ownsRow w.heap.size 5 1 v (pack (L.take (8 * j))).length ((pack (L.take (8 * j))).map bv) ∧ Below w.heap.size w wr) (fun _ i _ => n + 8 - (intOf i).toNat)
  case atStart => exact ⟨0, by omega, rfl, World.ownsRow_nil _ _ _ _, Below.refl _ _⟩
  case round =>
    obtain ⟨j, hj, rfl, hown, hbl⟩ := hrel
    have hsize := hbl.size
    by_cases h : 8 * j < n
    · obtain ⟨J, hJ⟩ : ∃ J, J = 8 * j := ⟨_, rfl⟩
      rw [← hJ] at hown h hj ⊢
      have HJ := Lib.hid hJ
      clear hJ
      obtain ⟨b, off, rfl, hbB, hc⟩ := HI.out (by omega)
      go_wp2
      go_loop [5, 6] (fun x k => ∃ m : Nat, m ≤ 8 ∧ k = .int .i64 m ∧ x = .int .i64 (val ((eight L J).take m))) (fun _ k => 8 - (intOf k).toNat)
      case atStart => exact ⟨0, by omega, rfl, by simp [val]⟩
      case round =>
        obtain ⟨m, hm, rfl, rfl⟩ := hrel
        have hv : val ((eight L J).take m) < 256 := by
          refine Nat.lt_of_lt_of_le (val_lt _ ((eight_bits L J hb).take m)) (Nat.le_trans (Nat.pow_le_pow_right (by omega) (show ((eight L J).take m).length ≤ 8 by rw [List.length_take]; omega)) (by decide))
        by_cases hm8 : m < 8
        · have hnext := eight_next L J m hm8
          by_cases hin : J + m < n
          · have hcell := (hbl.cell (p := ⟨b, off + (J + m), none⟩) hbB).trans (hc (J + m) hin)
            have hy2 : L.getD (J + m) 0 < 2 := bit_lt L (J + m) hb
            generalize val ((eight L J).take m) = X at *
            generalize L.getD (J + m) 0 = y at *
            have HN := Lib.hid hnext
            clear hnext hc
            go_wp2
            go_round
            case rel => exact ⟨m + 1, hm8, by go_num, by rw [HN.out]; congr 1; omega⟩
            case measure => simp [intOf]; omega
          · have hy0 : L.getD (J + m) 0 = 0 := by
              rw [List.getD_eq_getElem?_getD, List.getElem?_eq_none (by rw [HL.out]; omega)]; rfl
            rw [hy0] at hnext
            generalize val ((eight L J).take m) = X at *
            have HN := Lib.hid hnext
            clear hnext hc hy0
            go_wp2
            go_round
            case rel => exact ⟨m + 1, hm8, by go_num, by rw [HN.out]; congr 1; omega⟩
            case measure => simp [intOf]; omega
        · obtain rfl : m = 8 := by omega
          obtain ⟨xs, hxs⟩ : ∃ xs, xs = (pack (L.take J)).map bv := ⟨_, rfl⟩
          rw [← hxs] at hown
          have HX := Lib.hid hxs
          clear hxs
          have hpl : (pack (L.take J)).length ≤ n := by rw [pack_length, List.length_take]; omega
          generalize hpk : (pack (L.take J)).length = K at *
          have HK := Lib.hid hpk
          clear hpk
          rw [List.take_of_length_le (by rw [eight_length]; exact Nat.le_refl _)] at hv ⊢
          generalize hev : val (eight L J) = X at *
          have HE := Lib.hid hev
          clear hev hc
          go_wp2_with (at_builtin; refine wpList_append_own _ rfl _ _ 67 rfl w.heap.size 5 i5 (.int .u8 0) 1 1 Try.underlying67 h5 hz0 hz1 hz2 rfl (by decide) _ _ _ rfl (hown.alloc _) ⟨wr.heap.size, 0, none⟩ 1 1 [.int .u8 X] rfl rfl ?c1 ?c2 ?c3 ?c4 ?c5 ?_)
          case c2 => rfl
          case c3 => unfold maxLen; omega
          case c4 => omega
          case c5 => omega
          intro v2 w2 hown2 hgrow2 _
          have hb2 : Below w.heap.size w w2 := (hbl.alloc hsize _).grown hgrow2 (by simp; omega) (fun k hk => (hown.lt k hk).1)
          have hpe := pack_eight L j (by rw [HL.out, ← HJ.out]; exact h)
          rw [← HJ.out, HE.out] at hpe
          have hown3 : w2.ownsRow w.heap.size 5 1 v2 (pack (L.take (8 * (j + 1)))).length ((pack (L.take (8 * (j + 1)))).map bv) := by
            rw [hpe, List.length_append, List.length_singleton, HK.out, List.map_append, ← HX.out]
            have : bv (UInt8.ofNat X) = .int .u8 X := by simp [bv]; omega
            rw [List.map_singleton, this]
            exact hown2
          have HP := Lib.hid hpe
          clear hpe hown2 hgrow2 hown hbl
          go_wp2
          go_roundw
          case rel => exact ⟨j + 1, by rw [HJ.out] at h; omega, by rw [HJ.out]; rfl, hown3, hb2⟩
          case measure => simp [intOf]; omega
    · have hall : L.take (8 * j) = L := List.take_of_length_le (by rw [HL.out]; omega)
      rw [hall] at hown
      have hconv := conv_row hown
      have HA := Lib.hid hall
      clear hall
      go_wp2
      go_ret
      exact ⟨rfl, hbl⟩

theorem rbits_arg (w : World) (x n : Int) (hn : n < 0 ∨ 64 < n) : Calls Try.prog 12 #[.int .u64 x, .int .i64 n] w fun e w' => e = .returned (.tuple #[.slice none 0 0, .bool false]) ∧ w = w' := by
  rcases hn with hn | hn
  · go_enter Try.func12, Try.ntmps12
    go_wp2
    go_ret2
    exact ⟨rfl, rfl⟩
  · have h' : 0 ≤ n := by omega
    go_enter Try.func12, Try.ntmps12
    go_wp2
    go_ret2
    exact ⟨rfl, rfl⟩

def RBitsPost (w : World) (x n : Nat) (e : Ending) (w' : World) : Prop :=
  ∃ g cap, e = .returned (.tuple #[.slice (some ⟨g, 0, none⟩) n cap, .bool (decide (x < 2 ^ n))]) ∧ w'.ownsRow w.heap.size 3 1 (.slice (some ⟨g, 0, none⟩) n cap) n ((bitsN x n).map iv) ∧ Below w.heap.size w w'

theorem bitsN_front (x k : Nat) : bitsN x (k + 1) = (x / 2 ^ k % 2) :: bitsN x k := by
  rw [Nat.add_comm k 1, bitsN_add]
  rfl

theorem set_front (q k x : Nat) : ((List.replicate (q + 1) 0 ++ bitsN x k).map iv).set q (.int .i64 (x / 2 ^ k % 2 : Nat)) = (List.replicate q 0 ++ bitsN x (k + 1)).map iv := by
  have h1 : (List.replicate (q + 1) 0 ++ bitsN x k).map iv = List.replicate q (iv 0) ++ (iv 0 :: (bitsN x k).map iv) := by
    rw [List.replicate_succ', List.append_assoc, List.map_append, List.map_replicate]
    rfl
  rw [h1, List.set_append, if_neg (by simp), List.length_replicate, Nat.sub_self, bitsN_front, List.map_append, List.map_replicate]
  rfl

theorem rbits_any (w : World) (x n : Nat) (hx : x < 2 ^ 64) (hn : n ≤ 64) : Calls Try.prog 12 #[.int .u64 x, .int .i64 n] w (RBitsPost w x n) := by
  obtain ⟨i3, hi, hz0, hz1, hz2⟩ := info_parts Try.info3
  have HX := Lib.hid hx
  clear hx
  go_enter Try.func12, Try.ntmps12
  go_wp2_with (refine wpList_make_full w rfl _ _ 26 rfl w.heap.size 3 i3 (.int .i64 0) 1 Try.underlying26 hi hz0 hz1 .i64 .i64 _ _ n rfl rfl rfl rfl ?b2 ?b3 ?b4 ?_)
  case b2 => rw [hz2]; omega
  case b3 => unfold maxLen; omega
  case b4 => exact Nat.le_refl _
  intro w1 hown1 hgrow1
  have hb1 : Below w.heap.size w w1 := (Below.refl _ _).grown hgrow1 (Nat.le_refl _) (fun k hk => by cases hk)
  have hown2 : w1.ownsRow w.heap.size 3 1 (.slice (some ⟨w.heap.size, 0, none⟩) n n) n ((List.replicate n 0).map iv) := by
    have e : (madeCells #[Value.int .i64 0] n).toList = (List.replicate n 0).map iv := by
      rw [toList_madeCells_one, List.map_replicate]
      rfl
    rw [← e]
    exact hown1
  clear hown1 hgrow1
  go_wp2
  go_loopw [0, 7] (fun v i wr => ∃ r : Nat, r ≤ n ∧ i = .int .i64 ((r : Int) - 1) ∧ v = .int .u64 (x / 2 ^ (n - r) : Nat) ∧ wr.ownsRow w.heap.size 3 1 (.slice (some ⟨w.heap.size, 0, none⟩) n n) n ((List.replicate r 0 ++ bitsN x (n - r)).map iv) ∧ Below w.heap.size w wr) (fun _ i _ => (intOf i + 1).toNat)
  case atStart => exact ⟨n, Nat.le_refl _, rfl, by simp, by simpa [bitsN] using hown2, hb1⟩
  case round =>
    obtain ⟨r, hr, rfl, rfl, hown, hb⟩ := hrel
    have hy : x / 2 ^ (n - r) < 18446744073709551616 := Nat.lt_of_le_of_lt (Nat.div_le_self _ _) HX.out
    cases r with
    | zero =>
      have e1 : ((0 : Nat) : Int) - 1 = -1 := rfl
      rw [e1]
      clear e1
      simp only [Nat.sub_zero, List.replicate_zero, List.nil_append] at hown hy ⊢
      have hdec : ((x / 2 ^ n : Nat) : Int) = 0 ↔ x < 2 ^ n := by
        rw [← Nat.div_eq_zero_iff_lt (Nat.two_pow_pos n)]
        omega
      generalize x / 2 ^ n = y at *
      have HD := Lib.hid hdec
      clear hdec
      go_wp2
      go_ret2
      refine ⟨w.heap.size, n, ?_, hown, hb⟩
      show Ending.returned (Value.tuple #[_, .bool ((y : Int) == 0)]) = _
      have he : ((y : Int) == 0) = decide (x < 2 ^ n) := by
        rw [Bool.eq_iff_iff, beq_iff_eq, decide_eq_true_iff]
        exact HD.out
      rw [he]
      rfl
    | succ q =>
      have e1 : ((q + 1 : Nat) : Int) - 1 = (q : Int) := by omega
      rw [e1]
      clear e1
      have h1 := hown.cellAt q (by omega)
      have h2 := hown.frozenAt q
      rw [List.getElem?_map, List.getElem?_append_left (by rw [List.length_replicate]; omega), List.getElem?_replicate, if_pos (by omega)] at h1
      simp [iv] at h1
      have hnext : x / 2 ^ (n - (q + 1)) / 2 = x / 2 ^ (n - q) := by rw [Nat.div_div_eq_div_mul, ← Nat.pow_succ, Nat.succ_eq_add_one, show n - (q + 1) + 1 = n - q by omega]
      have hst := (hown.stored q (.int .i64 (x / 2 ^ (n - (q + 1)) % 2 : Nat))).1
      have hset : ((List.replicate (q + 1) 0 ++ bitsN x (n - (q + 1))).map iv).set q (.int .i64 (x / 2 ^ (n - (q + 1)) % 2 : Nat)) = (List.replicate q 0 ++ bitsN x (n - q)).map iv := by
        rw [show n - q = n - (q + 1) + 1 by omega]
        exact set_front q _ x
      rw [hset] at hst
      generalize x / 2 ^ (n - (q + 1)) = y at *
      have HN := Lib.hid hnext
      clear hnext hset
      have hcast : ((y % 2 : Nat) : Int) = (y : Int) % 2 := by omega
      rw [hcast] at hst
      have HC := Lib.hid hcast
      clear hcast
      go_wp2
      go_roundw
      case rel => exact ⟨q, by omega, rfl, by rw [← HN.out, Int.natCast_ediv]; rfl, hst, hb.setCell (p := ⟨w.heap.size, q, none⟩) (Nat.le_refl _) _⟩
      case measure => simp [intOf]

end Go.Proofs.Ytelgmihemnidkaa
