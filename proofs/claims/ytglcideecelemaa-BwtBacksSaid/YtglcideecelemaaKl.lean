/- A number's place. Over what is asked of the sort. -/
import Derived.Test.YtglcideecelemaaKh
import Derived.Test.YtglcideecelemaaKk
import Derived.Test.YtglcideecelemaaL
namespace Go.Proofs.Ytglcideecelemaa
open Go.RowKit

set_option maxHeartbeats 1600000 in
set_option maxRecDepth 100000 in
theorem index_any (w : World) (g n c k i : Nat) (L : List Nat) (h : IRow w g L) (hl : L.length = n) (hk : k < n) (hv : L.getD k 0 = i) (hlow : ∀ q, q < k → L.getD q 0 ≠ i) (hn : n ≤ 1000000) :
    Calls Try.prog 16 #[.slice (some ⟨g, 0, none⟩) n c, .int .i64 i] w fun e w' => e = .returned (.int .i64 k) ∧ w = w' := by
  have HH := Lib.hid h
  have HL := Lib.hid hl
  have HV := Lib.hid hv
  have HLOW := Lib.hid hlow
  clear h hl hv hlow
  go_enter Try.func16, Try.ntmps16
  go_wp2_with fail
  go_loop [8] (fun x => ∃ q : Nat, q ≤ k ∧ x = .int .i64 q) (fun x => n - (intOf x).toNat)
  case atStart => exact ⟨0, Nat.zero_le _, rfl⟩
  case round =>
    obtain ⟨q, hq, rfl⟩ := hrel
    have hc := HH.out.cell (i := q) (by rw [HL.out]; omega)
    have d1 : decide ((q : Int) < (n : Int)) = true := decide_eq_true (by omega)
    by_cases e : q = k
    · subst e
      rw [HV.out] at hc
      have d2 : ((i : Int) == (i : Int)) = true := beq_self_eq_true _
      go_wp2_with fail
      go_ret
      exact ⟨rfl, rfl⟩
    · have hne := HLOW.out q (by omega)
      obtain ⟨v, hvv⟩ : ∃ v, v = L.getD q 0 := ⟨_, rfl⟩
      rw [← hvv] at hc hne
      clear hvv
      have d2 : ((i : Int) == (v : Int)) = false := beq_false_of_ne (by omega)
      go_wp2_with fail
      go_round
      case rel => exact ⟨q + 1, by omega, by go_num⟩
      case measure => simp [intOf]; omega

theorem nodup_inj {L : List Nat} (h : L.Nodup) {i j : Nat} (hi : i < L.length) (hj : j < L.length) (e : L[i] = L[j]) : i = j := by
  have hp := List.pairwise_iff_getElem.1 h
  rcases Nat.lt_trichotomy i j with h1 | h1 | h1
  · exact absurd e (hp i j hi hj h1)
  · exact h1
  · exact absurd e.symm (hp j i hj hi h1)

/-- Where the number i stands in the order. -/
def IsRank (s : List UInt8) (i k : Nat) : Prop := ∃ L, IsOrd s L ∧ k < L.length ∧ L.getD k 0 = i
theorem isRank_one {s : List UInt8} {i k m : Nat} (h : IsRank s i k) (h' : IsRank s i m) : k = m := by
  obtain ⟨L, hL, h1, h2⟩ := h
  obtain ⟨M, hM, h3, h4⟩ := h'
  obtain rfl := isOrd_one hL hM
  have hnd := isOrd_nodup hL
  rw [List.getD_eq_getElem?_getD, List.getElem?_eq_getElem h1] at h2
  rw [List.getD_eq_getElem?_getD, List.getElem?_eq_getElem h3] at h4
  have h5 : L[k] = L[m] := (show L[k] = i from h2).trans (show i = L[m] from h4.symm)
  exact nodup_inj hnd h1 h3 h5
theorem isRank_find {s : List UInt8} {L : List Nat} (h : IsOrd s L) (i : Nat) (hi : i < s.length) : ∃ k, k < L.length ∧ L.getD k 0 = i ∧ ∀ q, q < k → L.getD q 0 ≠ i := by
  have hmem := (h.2 i).2 hi
  obtain ⟨k, hk, e⟩ := List.getElem_of_mem hmem
  refine ⟨k, hk, by rw [List.getD_eq_getElem?_getD, List.getElem?_eq_getElem hk]; exact e, fun q hq e2 => ?_⟩
  rw [List.getD_eq_getElem?_getD, List.getElem?_eq_getElem (by omega)] at e2
  have h5 : L[q] = L[k] := (show L[q] = i from e2).trans e.symm
  have := nodup_inj (isOrd_nodup h) (by omega) hk h5
  omega

def RankPost (w : World) (s : List UInt8) (i : Nat) (e : Ending) (w' : World) : Prop := ∃ k : Nat, e = .returned (.tuple #[.int .i64 k, .int .i64 0]) ∧ IsRank s i k ∧ Below w.heap.size w w'

set_option maxRecDepth 100000 in
theorem crank_any (N : Nat) (S : SortOk N) (w : World) (s : ByteArray) (i : Nat) (hi : i < s.size) (hN : s.size ≤ N) (hs : s.size ≤ 1000000) : Calls Try.prog 14 #[.string s, .int .i64 i] w (RankPost w s.data.toList i) := by
  have HA := Lib.hid (there_yes w s i hi)
  have HO := Lib.hid (order_any N S w s hN hs)
  have hsl : s.data.toList.length = s.size := rfl
  have HSL := Lib.hid hsl
  clear hsl
  go_enter Try.func14, Try.ntmps14
  go_wp2_with fail
  refine HA.out.mono ?_
  rintro e w1 ⟨rfl, rfl⟩
  go_wp2_with fail
  refine HO.out.mono ?_
  rintro e w2 ⟨g, L, rfl, hrow, hord, hg, hb⟩
  obtain ⟨k, hk, hv, hlow⟩ := isRank_find hord i (by rw [HSL.out]; exact hi)
  have hlL : L.length = s.size := (isOrd_length hord).trans HSL.out
  have HI := Lib.hid (index_any w2 g s.size s.size k i L hrow hlL (by omega) hv hlow hs)
  have HR := Lib.hid (show IsRank s.data.toList i k from ⟨L, hord, hk, hv⟩)
  have HB := Lib.hid hb
  clear hrow hord hb hk hv hlow hlL
  rw [HSL.out]
  go_wp2_with fail
  refine HI.out.mono ?_
  rintro e w3 ⟨rfl, rfl⟩
  go_wp2_with fail
  go_ret2
  exact ⟨k, rfl, HR.out, HB.out⟩

set_option maxRecDepth 100000 in
theorem crank_arg (w : World) (s : ByteArray) (i : Int) (h : i < 0 ∨ (s.size : Int) ≤ i) : Calls Try.prog 14 #[.string s, .int .i64 i] w fun e w' => e = .returned (.tuple #[.int .i64 0, .int .i64 2]) ∧ w = w' := by
  have HA := Lib.hid (there_no w s i h)
  clear h
  go_enter Try.func14, Try.ntmps14
  go_wp2_with fail
  refine HA.out.mono ?_
  rintro e w1 ⟨rfl, rfl⟩
  go_wp2_with fail
  go_ret2
  exact ⟨rfl, rfl⟩

theorem IRow.ints {w : World} {g n : Nat} {L : List Nat} (h : IRow w g L) (hl : L.length = n) : IntsIn w (some ⟨g, 0, none⟩) n L :=
  ⟨hl, fun _ => ⟨g, 0, rfl, fun i hi => by rw [Nat.zero_add]; exact h.cell (by omega)⟩⟩

theorem ord_fixed : IsOrd [98, 97, 110, 97, 110, 97] [5, 3, 1, 0, 4, 2] := sorted_perm (by decide +kernel) (by decide +kernel)
theorem rank_fixed : IsRank [98, 97, 110, 97, 110, 97] 0 3 := ⟨_, ord_fixed, by decide, by decide⟩
end Go.Proofs.Ytglcideecelemaa
