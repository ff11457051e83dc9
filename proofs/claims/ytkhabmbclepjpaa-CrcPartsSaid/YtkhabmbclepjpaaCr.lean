/- The reference of crc, walked: Turned, Stream, poly, rest. Conditions: at most 10^8 bits. -/
import Derived.Test.YtkhabmbclepjpaaCm
import Derived.Test.YtkhabmbclepjpaaRb
import Derived.Test.YtkhabmbclepjpaaRn
import Derived.Test.YtkhabmbclepjpaaRo
import Derived.Test.YtkhabmbclepjpaaRt
namespace Go.Proofs.Ytkhabmbclepjpaa
open Go.RowKit

theorem turned_any (w : World) (A : Option Addr) (n c : Nat) (L : List Nat) (hi : IntsIn w A n L) (hb : Bit01 L) (hn : n ≤ 100000000) :
    Calls Try.prog 27 #[.slice A n c] w fun e w' => ∃ v, e = .returned v ∧ w'.ownsRow w.heap.size 3 1 v n (L.reverse.map iv) ∧ Below w.heap.size w w' := by
  obtain ⟨i3, h3, hz0, hz1, hz2⟩ := info_parts Try.info3
  have hI : (0 < n → ∃ b off, A = some ⟨b, off, none⟩ ∧ b < w.heap.size ∧ ∀ i, i < n → w.cell? ⟨b, off + i, none⟩ = some (.int .i64 (L.getD i 0))) := fun h => by
    obtain ⟨b, off, hA, hc⟩ := hi.2 h
    exact ⟨b, off, hA, World.block_lt_of_cell? w _ (hc 0 h), hc⟩
  have HL := Lib.hid hi.1
  have HI := Lib.hid hI
  clear hi hI
  go_enter Try.func27, Try.ntmps27
  go_wp2
  go_loopw [3, 4] (fun v i wr => ∃ r : Nat, r ≤ n ∧ i = .int .i64 ((r : Int) - 1) ∧ wr.ownsRow w.heap.size 3 1 v (n - r) (((L.drop r).reverse).map iv) ∧ Below w.heap.size w wr) (fun _ i _ => (intOf i + 1).toNat)
  case atStart => exact ⟨n, Nat.le_refl _, rfl, by rw [List.drop_of_length_le (by rw [HL.out]; exact Nat.le_refl _), Nat.sub_self]; exact World.ownsRow_nil _ _ _ _, Below.refl _ _⟩
  case round =>
    obtain ⟨r, hr, rfl, hown, hbl⟩ := hrel
    have hsize := hbl.size
    cases r with
    | zero =>
      have e1 : ((0 : Nat) : Int) - 1 = -1 := rfl
      rw [e1]
      clear e1
      rw [List.drop_zero, Nat.sub_zero] at hown
      go_wp2
      go_ret
      exact ⟨_, rfl, hown, hbl⟩
    | succ q =>
      have e1 : ((q + 1 : Nat) : Int) - 1 = (q : Int) := by omega
      rw [e1]
      clear e1
      obtain ⟨b, off, rfl, hbB, hc⟩ := HI.out (by omega)
      have g1 := (hbl.cell (p := ⟨b, off + q, none⟩) hbB).trans (hc q (by omega))
      have hrev : (L.drop q).reverse = (L.drop (q + 1)).reverse ++ [L.getD q 0] := by
        have hq : q < L.length := by rw [HL.out]; omega
        rw [List.drop_eq_getElem_cons hq, List.reverse_cons, List.getD_eq_getElem?_getD, List.getElem?_eq_getElem hq]
        rfl
      have hxb := bit_lt L q hb
      generalize L.getD q 0 = x at *
      obtain ⟨xs, hxs⟩ : ∃ xs, xs = ((L.drop (q + 1)).reverse).map iv := ⟨_, rfl⟩
      rw [← hxs] at hown
      have HXS := Lib.hid hxs
      have HREV := Lib.hid hrev
      clear hxs hrev hc
      go_wp2_with (at_builtin; refine wpList_append_own _ rfl _ _ 40 rfl w.heap.size 3 i3 (.int .i64 0) 1 8 Try.underlying40 h3 hz0 hz1 hz2 rfl (by decide) _ _ _ rfl (hown.alloc _) ⟨wr.heap.size, 0, none⟩ 1 1 [.int .i64 x] rfl rfl ?c1 ?c2 ?c3 ?c4 ?c5 ?_)
      case c1 => exact cell_one_new _ _ _
      case c2 => intro u hu; simp at hu; subst hu; rfl
      case c3 => unfold maxLen; omega
      case c4 => omega
      case c5 => simp; omega
      intro v2 w2 hown2 hgrow2 _
      have hb2 : Below w.heap.size w w2 := (hbl.alloc hsize _).grown hgrow2 (by simp; omega) (fun k hk => (hown.lt k hk).1)
      have hown3 : w2.ownsRow w.heap.size 3 1 v2 (n - q) (((L.drop q).reverse).map iv) := by
        rw [HREV.out, List.map_append, ← HXS.out, show n - q = n - (q + 1) + 1 by omega]
        exact hown2
      clear hown2 hgrow2 hown hbl
      go_wp2
      go_roundw
      case rel => exact ⟨q, by omega, rfl, hown3, hb2⟩
      case measure => simp [intOf]

theorem poly_any (w : World) : Calls Try.prog 31 #[] w fun e w' => ∃ g cap, e = .returned (.slice (some ⟨g, 0, none⟩) 33 cap) ∧ w'.ownsRow w.heap.size 3 1 (.slice (some ⟨g, 0, none⟩) 33 cap) 33 (pL.map iv) ∧ Below w.heap.size w w' := by
  have hc : Calls Try.prog 22 #[.int .u64 4374732215, .int .i64 33] w (RBitsPost w 4374732215 33) := rbits_any w 4374732215 33 (by decide) (by decide)
  have HC := Lib.hid hc
  clear hc
  go_enter Try.func31, Try.ntmps31
  go_wp2_with fail
  refine HC.out.mono ?_
  rintro e w1 ⟨g, cap, rfl, ho, hb⟩
  go_wp2_with fail
  go_ret
  exact ⟨g, cap, rfl, ho, hb⟩

end Go.Proofs.Ytkhabmbclepjpaa
