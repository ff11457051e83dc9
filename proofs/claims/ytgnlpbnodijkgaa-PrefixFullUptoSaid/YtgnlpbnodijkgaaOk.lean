/- The reference's Decode. Conditions: at most a million bits. Written ahead of stage 9. -/
import Derived.Test.YtgnlpbnodijkgaaOj
namespace Go.Proofs.Ytgnlpbnodijkgaa
open Go.RowKit

theorem all_one (L : List Int) (bs : List Nat) (at' : Int) : allAns L bs at' 1 (-1) = (if (decAns L bs at').2.2 = 0 then [(decAns L bs at').1] else [], (decAns L bs at').2.1, (decAns L bs at').2.2) := by
  unfold allAns decAns
  by_cases h : LenOk L
  · rw [if_pos h, if_pos h]
    by_cases h2 : at' < 0 ∨ (bs.length : Int) < at'
    · rw [if_pos (by omega), if_pos h2]
      rfl
    · rw [if_neg (by omega), if_neg h2]
      show allF (nl L) bs (-1) 1 at'.toNat [] = _
      rw [allF_more]
      cases nextL (nl L) (bs.drop at'.toNat) with
      | hit i =>
        show (if (i : Int) = -1 then _ else _) = _
        rw [if_neg (by omega)]
        rfl
      | short => rfl
      | code => rfl
  · rw [if_neg h, if_neg h]
    rfl
theorem dec_none {L : List Int} {bs : List Nat} {at' : Int} (h : (decAns L bs at').2.2 ≠ 0) : (decAns L bs at').1 = 0 ∧ (decAns L bs at').2.1 = 0 := by
  unfold decAns at h ⊢
  by_cases h1 : LenOk L
  · rw [if_pos h1] at h ⊢
    by_cases h2 : at' < 0 ∨ (bs.length : Int) < at'
    · rw [if_pos h2]
      exact ⟨rfl, rfl⟩
    · rw [if_neg h2] at h ⊢
      cases hx : nextL (nl L) (bs.drop at'.toNat) with
      | hit i =>
        rw [hx] at h
        exact absurd rfl h
      | short => exact ⟨rfl, rfl⟩
      | code => exact ⟨rfl, rfl⟩
  · rw [if_neg h1]
    exact ⟨rfl, rfl⟩
theorem dec_code (L : List Int) (bs : List Nat) (at' : Int) : (decAns L bs at').2.2 ≤ 90 := by
  unfold decAns
  split
  · split
    · show 2 ≤ 90; omega
    · split
      · exact Nat.zero_le _
      · show 10 ≤ 90; omega
      · exact Nat.le_refl _
  · show 80 ≤ 90; omega

/-- A symbol, a place, and an error. -/
def DecPost (w : World) (a : Nat × Nat × Nat) (e : Ending) (w' : World) : Prop := e = .returned (.tuple #[.int .i64 a.1, .int .i64 a.2.1, .int .i64 a.2.2]) ∧ Below w.heap.size w w'

set_option maxRecDepth 100000 in
theorem rdec_any (w : World) (A B : Option Addr) (n c0 m c : Nat) (L : List Int) (bits : List Nat) (at' : Int) (hL : ZIn w A n L) (hn : n ≤ maxLen) (hb : IntsIn w B m bits) (hmc : m ≤ c) (hm : m ≤ 1000000) (hc : c ≤ maxLen) (h01 : Bit01 bits) (h1 : -9223372036854775808 ≤ at') (h2 : at' ≤ 9223372036854775807) :
    Calls Try.prog 17 #[.slice A n c0, .slice B m c, .int .i64 at'] w (DecPost w (decAns L bits at')) := by
  have hall := rall_any w A B n c0 m c L bits at' 1 (-1) hL hn hb hmc hm hc h01 h1 h2 (by omega) (by omega) (by omega) (by omega)
  rw [all_one] at hall
  have hnone := dec_none (L := L) (bs := bits) (at' := at')
  have hcode := dec_code L bits at'
  generalize decAns L bits at' = a at *
  obtain ⟨x, p, k⟩ := a
  have hcode2 : k ≤ 90 := hcode
  have HALL := Lib.hid hall
  have HNONE := Lib.hid hnone
  clear hL hb h01 hall hnone hcode
  go_enter Try.func17, Try.ntmps17
  go_wp2_with fail
  refine HALL.out.mono ?_
  rintro e w1 ⟨v, rfl, hown, hb⟩
  have HB := Lib.hid hb
  dsimp only at hown ⊢
  by_cases h0 : k = 0
  · subst h0
    rw [if_pos rfl] at hown
    obtain ⟨A1, c1, rfl, _, _, hA⟩ := own_slice hown
    obtain ⟨g, rfl⟩ := hA (by simp)
    have hc0 := World.ownsRow.cellAt hown 0 (by simp)
    have hc1 : w1.cell? ⟨g, 0, none⟩ = some (.int .i64 (x : Nat)) := hc0
    clear hown hb hc0
    go_wp2_with fail
    go_ret3
    exact ⟨rfl, HB.out⟩
  · have hz := HNONE.out h0
    have hx : x = 0 := hz.1
    have ht : p = 0 := hz.2
    subst hx ht
    have d0 : ((k : Int) != 0) = true := by
      rw [bne_iff_ne]
      omega
    obtain ⟨A1, c1, rfl, _, _, _⟩ := own_slice hown
    clear hown hb hz
    go_wp2_with fail
    go_ret3
    exact ⟨rfl, HB.out⟩

end Go.Proofs.Ytgnlpbnodijkgaa
