/- A number's place; two lists held against each other; the answers that the document fixes: awake. Over what is asked of the sort. -/
import Derived.Test.YtgoghcdigkgkmaaKh
import Derived.Test.YtgoghcdigkgkmaaKk
import Derived.Test.YtgoghcdigkgkmaaL
namespace Go.Proofs.Ytgoghcdigkgkmaa
open Go.RowKit

set_option maxHeartbeats 1600000 in
set_option maxRecDepth 100000 in
theorem index_any (w : World) (g n c k i : Nat) (L : List Nat) (h : IRow w g L) (hl : L.length = n) (hk : k < n) (hv : L.getD k 0 = i) (hlow : ∀ q, q < k → L.getD q 0 ≠ i) (hn : n ≤ 1000000) :
    Calls Try.prog 24 #[.slice (some ⟨g, 0, none⟩) n c, .int .i64 i] w fun e w' => e = .returned (.int .i64 k) ∧ w = w' := by
  have HH := Lib.hid h
  have HL := Lib.hid hl
  have HV := Lib.hid hv
  have HLOW := Lib.hid hlow
  clear h hl hv hlow
  go_enter Try.func24, Try.ntmps24
  go_wp2_with fail
  go_loop [8] (fun x => ∃ q : Nat, q ≤ k ∧ x = .int .i64 q) (fun x => n - (intOf x).toNat)
  case atStart => exact ⟨0, Nat.zero_le _, rfl⟩
  case round =>
    obtain ⟨q, hq, rfl⟩ := hrel
    have hc := HH.out.cell (i := q) (by rw [HL.out]; omega)
    have d1 : decide ((q : Int) < (n : Int)) = true := decide_eq_true (by omega)
    by_cases e : q = k
    · subst e
      rw [HV.out] at hc
      have d2 : ((i : Int) == (i : Int)) = true := beq_self_eq_true _
      go_wp2_with fail
      go_ret
      exact ⟨rfl, rfl⟩
    · have hne := HLOW.out q (by omega)
      obtain ⟨v, hvv⟩ : ∃ v, v = L.getD q 0 := ⟨_, rfl⟩
      rw [← hvv] at hc hne
      clear hvv
      have d2 : ((i : Int) == (v : Int)) = false := beq_false_of_ne (by omega)
      go_wp2_with fail
      go_round
      case rel => exact ⟨q + 1, by omega, by go_num⟩
      case measure => simp [intOf]; omega

theorem nodup_inj {L : List Nat} (h : L.Nodup) {i j : Nat} (hi : i < L.length) (hj : j < L.length) (e : L[i] = L[j]) : i = j := by
  have hp := List.pairwise_iff_getElem.1 h
  rcases Nat.lt_trichotomy i j with h1 | h1 | h1
  · exact absurd e (hp i j hi hj h1)
  · exact h1
  · exact absurd e.symm (hp j i hj hi h1)

/-- Where the number i stands in the order. -/
def IsRank (s : List UInt8) (i k : Nat) : Prop := ∃ L, IsOrd s L ∧ k < L.length ∧ L.getD k 0 = i
theorem isRank_one {s : List UInt8} {i k m : Nat} (h : IsRank s i k) (h' : IsRank s i m) : k = m := by
  obtain ⟨L, hL, h1, h2⟩ := h
  obtain ⟨M, hM, h3, h4⟩ := h'
  obtain rfl := isOrd_one hL hM
  have hnd := isOrd_nodup hL
  rw [List.getD_eq_getElem?_getD, List.getElem?_eq_getElem h1] at h2
  rw [List.getD_eq_getElem?_getD, List.getElem?_eq_getElem h3] at h4
  have h5 : L[k] = L[m] := (show L[k] = i from h2).trans (show i = L[m] from h4.symm)
  exact nodup_inj hnd h1 h3 h5
theorem isRank_find {s : List UInt8} {L : List Nat} (h : IsOrd s L) (i : Nat) (hi : i < s.length) : ∃ k, k < L.length ∧ L.getD k 0 = i ∧ ∀ q, q < k → L.getD q 0 ≠ i := by
  have hmem := (h.2 i).2 hi
  obtain ⟨k, hk, e⟩ := List.getElem_of_mem hmem
  refine ⟨k, hk, by rw [List.getD_eq_getElem?_getD, List.getElem?_eq_getElem hk]; exact e, fun q hq e2 => ?_⟩
  rw [List.getD_eq_getElem?_getD, List.getElem?_eq_getElem (by omega)] at e2
  have h5 : L[q] = L[k] := (show L[q] = i from e2).trans e.symm
  have := nodup_inj (isOrd_nodup h) (by omega) hk h5
  omega

def RankPost (w : World) (s : List UInt8) (i : Nat) (e : Ending) (w' : World) : Prop := ∃ k : Nat, e = .returned (.tuple #[.int .i64 k, .int .i64 0]) ∧ IsRank s i k ∧ Below w.heap.size w w'

set_option maxRecDepth 100000 in
theorem crank_any (N : Nat) (S : SortOk N) (w : World) (s : ByteArray) (i : Nat) (hi : i < s.size) (hN : s.size ≤ N) (hs : s.size ≤ 1000000) : Calls Try.prog 15 #[.string s, .int .i64 i] w (RankPost w s.data.toList i) := by
  have HA := Lib.hid (there_yes w s i hi)
  have HO := Lib.hid (order_any N S w s hN hs)
  have hsl : s.data.toList.length = s.size := rfl
  have HSL := Lib.hid hsl
  clear hsl
  go_enter Try.func15, Try.ntmps15
  go_wp2_with fail
  refine HA.out.mono ?_
  rintro e w1 ⟨rfl, rfl⟩
  go_wp2_with fail
  refine HO.out.mono ?_
  rintro e w2 ⟨g, L, rfl, hrow, hord, hg, hb⟩
  obtain ⟨k, hk, hv, hlow⟩ := isRank_find hord i (by rw [HSL.out]; exact hi)
  have hlL : L.length = s.size := (isOrd_length hord).trans HSL.out
  have HI := Lib.hid (index_any w2 g s.size s.size k i L hrow hlL (by omega) hv hlow hs)
  have HR := Lib.hid (show IsRank s.data.toList i k from ⟨L, hord, hk, hv⟩)
  have HB := Lib.hid hb
  clear hrow hord hb hk hv hlow hlL
  rw [HSL.out]
  go_wp2_with fail
  refine HI.out.mono ?_
  rintro e w3 ⟨rfl, rfl⟩
  go_wp2_with fail
  go_ret2
  exact ⟨k, rfl, HR.out, HB.out⟩

set_option maxRecDepth 100000 in
theorem crank_arg (w : World) (s : ByteArray) (i : Int) (h : i < 0 ∨ (s.size : Int) ≤ i) : Calls Try.prog 15 #[.string s, .int .i64 i] w fun e w' => e = .returned (.tuple #[.int .i64 0, .int .i64 2]) ∧ w = w' := by
  have HA := Lib.hid (there_no w s i h)
  clear h
  go_enter Try.func15, Try.ntmps15
  go_wp2_with fail
  refine HA.out.mono ?_
  rintro e w1 ⟨rfl, rfl⟩
  go_wp2_with fail
  go_ret2
  exact ⟨rfl, rfl⟩

theorem IRow.ints {w : World} {g n : Nat} {L : List Nat} (h : IRow w g L) (hl : L.length = n) : IntsIn w (some ⟨g, 0, none⟩) n L :=
  ⟨hl, fun _ => ⟨g, 0, rfl, fun i hi => by rw [Nat.zero_add]; exact h.cell (by omega)⟩⟩

set_option maxHeartbeats 1600000 in
set_option maxRecDepth 100000 in
theorem ints_same (w : World) (A B : Option Addr) (n c d : Nat) (L : List Nat) (h : IntsIn w A n L) (k : IntsIn w B n L) (hn : n ≤ 1000000) :
    Calls Try.prog 12 #[.slice A n c, .slice B n d] w fun e w' => e = .returned (.bool true) ∧ ∃ m, w' = w.drewN m := by
  have d0 : ((n : Int) != (n : Int)) = false := by simp
  have H := Lib.hid h
  have K := Lib.hid k
  clear h k
  go_enter Try.func12, Try.ntmps12
  go_wp2_with fail
  go_loopw [5] (fun x wr => ∃ q : Nat, q ≤ n ∧ x = .int .i64 q ∧ ∃ m, wr = w.drewN m) (fun x _ => n - (intOf x).toNat)
  case atStart => exact ⟨0, Nat.zero_le _, rfl, 0, rfl⟩
  case round =>
    obtain ⟨q, hq, rfl, hd⟩ := hrel
    have HD := Lib.hid hd
    by_cases e : q < n
    · obtain ⟨b1, o1, rfl, hc1⟩ := H.out.2 (by omega)
      obtain ⟨b2, o2, rfl, hc2⟩ := K.out.2 (by omega)
      have c1 : wr.cell? ⟨b1, o1 + q, none⟩ = some (.int .i64 (L.getD q 0)) := by obtain ⟨m, rfl⟩ := hd; exact hc1 q e
      have c2 : wr.cell? ⟨b2, o2 + q, none⟩ = some (.int .i64 (L.getD q 0)) := by obtain ⟨m, rfl⟩ := hd; exact hc2 q e
      obtain ⟨v, hv⟩ : ∃ v, v = L.getD q 0 := ⟨_, rfl⟩
      rw [← hv] at c1 c2
      clear hv hd hc1 hc2
      have d1 : decide ((q : Int) < (n : Int)) = true := decide_eq_true (by omega)
      have d2 : ((v : Int) != (v : Int)) = false := by simp
      go_wp2_with fail
      go_quiet (fail)
      go_wp2_with fail
      go_roundw
      case rel =>
        obtain ⟨m, hm⟩ := HD.out
        exact ⟨q + 1, by omega, by go_num, m + nq, by rw [hm]; simp⟩
      case measure => simp [intOf]; omega
    · have d1 : decide ((q : Int) < (n : Int)) = false := decide_eq_false (by omega)
      clear hd
      go_wp2_with fail
      go_ret
      exact ⟨rfl, HD.out⟩

theorem ord_fixed : IsOrd [98, 97, 110, 97, 110, 97] [5, 3, 1, 0, 4, 2] := sorted_perm (by decide +kernel) (by decide +kernel)
theorem rank_fixed : IsRank [98, 97, 110, 97, 110, 97] 0 3 := ⟨_, ord_fixed, by decide, by decide⟩
theorem per_fixed : IsPer [97, 98, 97, 98] 2 := by
  refine isPer_of_first (by omega) (by decide) (.inr (by decide)) fun q h1 h2 => ?_
  rw [show q = 1 by omega]
  decide

theorem order_six (S : SortOk 6) (w : World) : Calls Try.prog 13 #[.string ⟨#[98, 97, 110, 97, 110, 97]⟩] w fun e w' => ∃ g : Nat, e = .returned (.slice (some ⟨g, 0, none⟩) 6 6) ∧ IntsIn w' (some ⟨g, 0, none⟩) 6 [5, 3, 1, 0, 4, 2] ∧ Below w.heap.size w w' := by
  refine (order_any 6 S w ⟨#[98, 97, 110, 97, 110, 97]⟩ (by decide) (by decide)).mono ?_
  rintro e w' ⟨g, L, rfl, hrow, hord, _, hb⟩
  have hL : L = [5, 3, 1, 0, 4, 2] := isOrd_one hord ord_fixed
  subst hL
  exact ⟨g, rfl, hrow.ints rfl, hb⟩
theorem rank_six (S : SortOk 6) (w : World) : Calls Try.prog 15 #[.string ⟨#[98, 97, 110, 97, 110, 97]⟩, .int .i64 0] w fun e w' => e = .returned (.tuple #[.int .i64 3, .int .i64 0]) ∧ Below w.heap.size w w' := by
  refine (crank_any 6 S w ⟨#[98, 97, 110, 97, 110, 97]⟩ 0 (by decide) (by decide) (by decide)).mono ?_
  rintro e w' ⟨k, rfl, hr, hb⟩
  have hk : k = 3 := isRank_one hr rank_fixed
  subst hk
  exact ⟨rfl, hb⟩
theorem per_four (w : World) : Calls Try.prog 17 #[.string ⟨#[97, 98, 97, 98]⟩] w fun e w' => e = .returned (.int .i64 2) ∧ ∃ m, w' = w.drewN m := by
  refine (cper_any w ⟨#[97, 98, 97, 98]⟩ (by decide)).mono ?_
  rintro e w' ⟨p, rfl, _, hp, hd⟩
  have hk : p = 2 := isPer_one (hp (by decide)) per_fixed
  subst hk
  exact ⟨rfl, hd⟩

set_option maxHeartbeats 1600000 in
theorem awake_any (S : SortOk 6) (w : World) : Calls Try.prog 9 #[] w fun e w' => e = .returned (.bool true) ∧ Below w.heap.size w w' := by
  go_enter Try.func9, Try.ntmps9
  go_wp2_with fail
  refine (rank_six S w).mono ?_
  rintro e w1 ⟨rfl, hb1⟩
  have HB1 := Lib.hid hb1
  clear hb1
  go_wp2_with fail
  refine (order_six S w1).mono ?_
  rintro e w2 ⟨g, rfl, hi, hb2⟩
  have HI := Lib.hid hi
  have HB2 := Lib.hid (HB1.out.trans (hb2.mono HB1.out.size))
  clear hi hb2
  go_wp2_with fail
  have hz := HB2.out.size
  have h3 := ints_below HI.out ((Below.refl _ w2).alloc (Nat.le_refl _) (.cells #[.int .i64 5, .int .i64 3, .int .i64 1, .int .i64 0, .int .i64 4, .int .i64 2] 3))
  have h4 : IntsIn (w2.alloc (.cells #[.int .i64 5, .int .i64 3, .int .i64 1, .int .i64 0, .int .i64 4, .int .i64 2] 3)) (some ⟨w2.heap.size, 0, none⟩) 6 [5, 3, 1, 0, 4, 2] := by
    refine ⟨rfl, fun _ => ⟨w2.heap.size, 0, rfl, fun i hi => ?_⟩⟩
    rw [Nat.zero_add, blk_cell (blk_new w2 3 _)]
    match i, hi with
    | 0, _ => rfl
    | 1, _ => rfl
    | 2, _ => rfl
    | 3, _ => rfl
    | 4, _ => rfl
    | 5, _ => rfl
  have HB3 := Lib.hid (HB2.out.alloc hz (.cells #[.int .i64 5, .int .i64 3, .int .i64 1, .int .i64 0, .int .i64 4, .int .i64 2] 3))
  have HS := Lib.hid (ints_same _ _ _ 6 6 6 _ h3 h4 (by omega))
  clear h3 h4
  refine HS.out.mono ?_
  rintro e w3 ⟨rfl, m3, rfl⟩
  go_wp2_with fail
  refine (per_four _).mono ?_
  rintro e w4 ⟨rfl, m4, rfl⟩
  go_wp2_with fail
  go_ret
  exact ⟨rfl, below_drewN HB3.out _⟩

end Go.Proofs.Ytgoghcdigkgkmaa
