/- What zrun's functions answer; the reference's Run. Conditions: numbers of 64 bits. -/
import Derived.Test.YtdlndcjiccfhgaaNa
import Derived.Test.YtdlndcjiccfhgaaNb
import Derived.Deep.LoopGhost
namespace Go.Proofs.Ytdlndcjiccfhgaa
open Go.RowKit

/-- What a run of k is told as. -/
def runAns (k : Int) : List Nat × Nat := if k < 0 ∨ 2147483647 < k then ([], 2) else (dig k.toNat, 0)
/-- What places are told as. -/
def encAns (n : Int) (L : List Int) : List Nat × Nat := if n < 1 ∨ 256 < n then ([], 2) else if ∀ x ∈ L, 0 ≤ x ∧ x < n then (encZ n.toNat 0 (L.map Int.toNat), 0) else ([], 60)
/-- What symbols say. -/
def decAns (n most : Int) (L : List Int) : List Nat × Nat := if n < 1 ∨ 256 < n ∨ most < 0 ∨ 262144 < most then ([], 2) else decZ n.toNat most.toNat L [] 1 false
/-- Numbers in a slice of the call's own, and an error. -/
def ListPost (w : World) (ans : List Nat × Nat) (e : Ending) (w' : World) : Prop := ∃ v, e = .returned (.tuple #[v, .int .i64 ans.2]) ∧ w'.ownsRow w.heap.size 3 1 v ans.1.length (ans.1.map iv) ∧ Below w.heap.size w w'

theorem lowD_snoc (n : Nat) : ∀ left, lowD (n + 1) left = lowD n left ++ [left / 2 ^ n % 2] := by
  induction n with
  | zero => intro left; simp [lowD]
  | succ n ih =>
    intro left
    rw [lowD, ih (left / 2), lowD, List.cons_append, Nat.div_div_eq_div_mul, Nat.pow_succ, Nat.mul_comm 2]
theorem lowD_length (n : Nat) : ∀ left, (lowD n left).length = n := by
  induction n with
  | zero => intro left; rfl
  | succ n ih => intro left; rw [lowD, List.length_cons, ih]

set_option maxHeartbeats 1600000 in
set_option maxRecDepth 100000 in
theorem rrun_any (w : World) (k : Nat) (hk : k ≤ 2147483647) : Calls Try.prog 9 #[.int .i64 k] w (ListPost w (dig k, 0)) := by
  obtain ⟨i3, h3, hz0, hz1, hz2⟩ := info_parts Try.info3
  have d0 : decide ((k : Int) < 0) = false := decide_eq_false (by omega)
  have d1 : decide ((2147483647 : Int) < (k : Int)) = false := decide_eq_false (by omega)
  go_enter Try.func9, Try.ntmps9
  go_wp2_with fail
  go_loopw [4] (fun x wx => ∃ n : Nat, n ≤ 31 ∧ x = .int .i64 n ∧ 2 ^ n ≤ k + 1 ∧ wx = w) (fun x _ => 40 - (intOf x).toNat)
  case atStart => exact ⟨0, by omega, rfl, by simp, rfl⟩
  case round =>
    obtain ⟨n, hn, rfl, hp, rfl⟩ := hrel
    obtain ⟨A, hA⟩ : ∃ A : Nat, A = 2 ^ (n + 1) := ⟨_, rfl⟩
    obtain ⟨B, hB⟩ : ∃ B : Nat, B = 2 ^ n := ⟨_, rfl⟩
    have hAB : A = 2 * B := by rw [hA, hB, Nat.pow_succ, Nat.mul_comm]
    have hz : ((2 : Int) ^ (n + 1)) = (A : Int) := by rw [hA]; simp
    have hy : ((2 : Int) ^ n) = (B : Int) := by rw [hB]; simp
    have hn30 : n ≤ 31 := hn
    have hB1 : 1 ≤ B := by rw [hB]; exact Nat.one_le_two_pow
    rw [← hB] at hp
    by_cases e : A ≤ k + 1
    · have hn31 : n + 1 ≤ 31 := by
        rcases Nat.lt_or_ge n 31 with h | h
        · omega
        · exfalso
          have : n = 31 := by omega
          subst this
          have : B = 2147483648 := hB
          omega
      have d2 : decide ((A : Int) - 1 ≤ (k : Int)) = true := decide_eq_true (by omega)
      have HA := Lib.hid hA
      clear hA hB hAB
      go_wp2_with fail
      go_roundw
      case rel => exact ⟨n + 1, hn31, by go_num, by rw [← HA.out]; exact e, trivial⟩
      case measure => simp [intOf]; omega
    · have d2 : decide ((A : Int) - 1 ≤ (k : Int)) = false := decide_eq_false (by omega)
      obtain ⟨left, hleft⟩ : ∃ left, left = k + 1 - B := ⟨_, rfl⟩
      have hl : (k : Int) - ((B : Int) - 1) = (left : Int) := by omega
      have hdig : dig k = lowD n left := by
        unfold dig
        rw [digM_low n (k + 1) (by omega) (by omega), hleft, hB]
      have HD := Lib.hid hdig
      clear hA hB hdig hAB hleft e
      go_wp2_with fail
      go_loopw [5, 6, 7] (fun l out x wx => ∃ i y : Nat, i ≤ n ∧ x = .int .i64 i ∧ l = .int .i64 y ∧ y = left / 2 ^ i ∧ wx.ownsRow wr.heap.size 3 1 out i ((lowD i left).map iv) ∧ Below wr.heap.size wr wx) (fun _ _ x _ => n - (intOf x).toNat)
      case atStart => exact ⟨0, left, Nat.zero_le _, rfl, rfl, by simp, World.ownsRow_nil _ _ _ _, Below.refl _ _⟩
      case round =>
        rename World => w2
        obtain ⟨i, y, hi, rfl, rfl, hy, hown, hb⟩ := hrel
        have hz9 := hb.size
        obtain ⟨A0, c0, rfl, hn0, hm0, hA0⟩ := own_slice hown
        clear hA0
        unfold maxLen at hm0
        have HB := Lib.hid hb
        have HO := Lib.hid hown
        have HY := Lib.hid hy
        by_cases e : i < n
        · have hsn := lowD_snoc i left
          rw [← hy] at hsn
          obtain ⟨b, hb2⟩ : ∃ b, b = y % 2 := ⟨_, rfl⟩
          rw [← hb2] at hsn
          have hbz : (y : Int) % 2 = (b : Int) := by omega
          obtain ⟨z, hz2'⟩ : ∃ z, z = y / 2 := ⟨_, rfl⟩
          have hzz : (y : Int) / 2 = (z : Int) := by omega
          have hzy : z = left / 2 ^ (i + 1) := by rw [hz2', hy, Nat.div_div_eq_div_mul, Nat.pow_succ]
          have hy31 : y ≤ 4294967296 := by
            rw [hy]
            exact Nat.le_trans (Nat.div_le_self _ _) (by omega)
          have d3 : decide ((i : Int) < (n : Int)) = true := decide_eq_true (by omega)
          have HSN := Lib.hid hsn
          have HZY := Lib.hid hzy
          obtain ⟨X, hX⟩ : ∃ X, X = (lowD i left).map iv := ⟨_, rfl⟩
          rw [← hX] at HO
          have HX := Lib.hid hX
          clear hb hown hy hsn hb2 hz2' hzy hX
          go_wp2_with (at_builtin; refine wpList_append_own _ rfl _ _ 22 rfl wr.heap.size 3 i3 (.int .i64 0) 1 8 Try.underlying22 h3 hz0 hz1 hz2 rfl (by decide) _ _ _ rfl (HO.out.alloc _) ⟨w2.heap.size, 0, none⟩ 1 1 [.int .i64 b] rfl rfl ?c1 ?c2 ?c3 ?c4 ?c5 ?_)
          case c1 => exact cell_one _ _ _
          case c2 => intro u hu; simp at hu; subst hu; rfl
          case c3 => unfold maxLen; omega
          case c4 => omega
          case c5 => simp; omega
          intro v4 w4 hown4 hgrow4 _
          have hb4 : Below wr.heap.size wr w4 := (HB.out.alloc hz9 _).grown hgrow4 (by simp; omega) (fun k hk => (HO.out.lt k hk).1)
          have HO4 := Lib.hid hown4
          have HB4 := Lib.hid hb4
          clear hown4 hgrow4 hb4
          go_wp2_with fail
          go_roundw
          case rel =>
            refine ⟨i + 1, z, by omega, by go_num, rfl, HZY.out, ?_, HB4.out⟩
            rw [HSN.out, List.map_append, ← HX.out]
            exact HO4.out
          case measure => simp [intOf]; omega
        · obtain rfl : i = n := by omega
          have d3 : decide ((i : Int) < (i : Int)) = false := decide_eq_false (by omega)
          clear hb hown hy
          go_wp2_with fail
          go_ret2
          refine ⟨_, rfl, ?_, HB.out⟩
          have h1 := HO.out
          rw [← HD.out] at h1
          have hlen : (dig k).length = i := by rw [HD.out, lowD_length]
          rw [hlen]
          exact h1

set_option maxRecDepth 100000 in
theorem rrun_all (w : World) (k : Int) : Calls Try.prog 9 #[.int .i64 k] w (ListPost w (runAns k)) := by
  by_cases h : k < 0 ∨ 2147483647 < k
  · have e : runAns k = ([], 2) := if_pos h
    rw [e]
    by_cases h1 : k < 0
    · have d0 : decide (k < 0) = true := decide_eq_true h1
      go_enter Try.func9, Try.ntmps9
      go_wp2_with fail
      go_ret2
      exact ⟨_, rfl, World.ownsRow_nil _ _ _ _, Below.refl _ _⟩
    · have h2 : 2147483647 < k := h.resolve_left h1
      have d0 : decide (k < 0) = false := decide_eq_false h1
      have d1 : decide (2147483647 < k) = true := decide_eq_true h2
      clear h
      go_enter Try.func9, Try.ntmps9
      go_wp2_with fail
      go_ret2
      exact ⟨_, rfl, World.ownsRow_nil _ _ _ _, Below.refl _ _⟩
  · obtain ⟨q, rfl⟩ : ∃ q : Nat, k = q := ⟨k.toNat, by omega⟩
    have e : runAns (q : Int) = (dig q, 0) := by
      unfold runAns
      rw [if_neg h, Int.toNat_natCast]
    rw [e]
    exact rrun_any w q (by omega)

end Go.Proofs.Ytdlndcjiccfhgaa
