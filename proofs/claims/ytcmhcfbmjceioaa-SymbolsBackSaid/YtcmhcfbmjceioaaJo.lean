/- The laws SymbolsOfs, SymbolsFronts, SymbolsBacks, SymbolsShows, SymbolsTakes, walked over what is asked of the code's functions. -/
import Derived.Test.YtcmhcfbmjceioaaJn
namespace Go.Proofs.Ytcmhcfbmjceioaa
open Go.RowKit

section
variable (R : SymDone)
include R

set_option maxRecDepth 100000 in
theorem ofs_walk (w : World) (s : ByteArray) (ws : s.size ≤ maxLen) : Calls Try.prog 3 #[.string s] w fun e w' => e = .returned (.bool true) ∧ Below w.heap.size w w' := by
  unfold maxLen at ws
  have HAW := Lib.hid (awake_any R)
  by_cases h : 2000 < s.size
  · have d1 : decide ((2000 : Int) < (s.size : Int)) = true := decide_eq_true (by omega)
    go_enter Try.func3, Try.ntmps3
    go_wp2_with fail
    refine (HAW.out w).mono ?_
    rintro e w1 ⟨rfl, hb⟩
    have HB := Lib.hid hb
    clear hb
    go_wp2_with fail
    go_ret
    exact ⟨rfl, HB.out⟩
  · have d1 : decide ((2000 : Int) < (s.size : Int)) = false := decide_eq_false (by omega)
    have HO := Lib.hid (R.of w s (by omega))
    have HR := Lib.hid fun w1 : World => rsof_any w1 s (by omega)
    generalize strB (ofL s.data.toList) = u at *
    go_enter Try.func3, Try.ntmps3
    go_wp2_with fail
    refine HO.out.mono ?_
    rintro e w1 ⟨rfl, hb⟩
    have HB := Lib.hid hb
    clear hb
    go_wp2_with fail
    refine (HR.out w1).mono ?_
    rintro e w2 ⟨rfl, hb2⟩
    have HB2 := Lib.hid (HB.out.trans (hb2.mono HB.out.size))
    clear hb2
    go_wp2_with fail
    refine (HAW.out w2).mono ?_
    rintro e w3 ⟨rfl, hb3⟩
    have HB3 := Lib.hid (HB2.out.trans (hb3.mono HB2.out.size))
    clear hb3
    go_wp2_with fail
    go_ret
    exact ⟨rfl, HB3.out⟩

set_option maxRecDepth 100000 in
theorem fronts_out (w : World) (s a : ByteArray) (ws : s.size ≤ maxLen) (wa : a.size ≤ maxLen) (h : 1000 < s.size ∨ 1000 < a.size) : Calls Try.prog 4 #[.string s, .string a] w fun e w' => e = .returned (.bool true) ∧ Below w.heap.size w w' := by
  unfold maxLen at ws wa
  have HAW := Lib.hid (awake_any R)
  by_cases h1 : 1000 < s.size
  · have d1 : decide ((1000 : Int) < (s.size : Int)) = true := decide_eq_true (by omega)
    go_enter Try.func4, Try.ntmps4
    go_wp2_with fail
    refine (HAW.out w).mono ?_
    rintro e w1 ⟨rfl, hb⟩
    have HB := Lib.hid hb
    clear hb
    go_wp2_with fail
    go_ret
    exact ⟨rfl, HB.out⟩
  · have d1 : decide ((1000 : Int) < (s.size : Int)) = false := decide_eq_false (by omega)
    have h2 : 1000 < a.size := h.resolve_left h1
    have d2 : decide ((1000 : Int) < (a.size : Int)) = true := decide_eq_true (by omega)
    clear h
    go_enter Try.func4, Try.ntmps4
    go_wp2_with fail
    refine (HAW.out w).mono ?_
    rintro e w1 ⟨rfl, hb⟩
    have HB := Lib.hid hb
    clear hb
    go_wp2_with fail
    go_ret
    exact ⟨rfl, HB.out⟩

set_option maxHeartbeats 1600000 in
set_option maxRecDepth 100000 in
theorem fronts_walk (w : World) (s a : ByteArray) (h1 : s.size ≤ 1000) (h2 : a.size ≤ 1000) : Calls Try.prog 4 #[.string s, .string a] w fun e w' => e = .returned (.bool true) ∧ Below w.heap.size w w' := by
  have HAW := Lib.hid (awake_any R)
  have d1 : decide ((1000 : Int) < (s.size : Int)) = false := decide_eq_false (by omega)
  have d2 : decide ((1000 : Int) < (a.size : Int)) = false := decide_eq_false (by omega)
  have HF := Lib.hid (R.front w s a (by omega) (by omega))
  have HR := Lib.hid fun w1 : World => rfront_any w1 s a (by omega) (by omega)
  have hbound : ∀ L c, frontAns s.data.toList a.data.toList = (L, c) → L.length ≤ 1000 := by
    intro L c h
    unfold frontAns at h
    split at h
    · rcases hf : frontL s.data.toList a.data.toList with _ | l
      · rw [hf] at h
        simp only [Prod.mk.injEq] at h
        rw [← h.1]
        simp
      · rw [hf] at h
        simp only [Prod.mk.injEq] at h
        rw [← h.1]
        by_cases hall : ∀ x ∈ s.data.toList, x ∈ a.data.toList
        · obtain ⟨l2, h3, h4⟩ := front_some s.data.toList a.data.toList hall
          rw [hf] at h3
          simp only [Option.some.injEq] at h3
          subst h3
          rw [h4]
          exact h1
        · rw [front_none s.data.toList a.data.toList (by
            simp only [Classical.not_forall] at hall
            obtain ⟨x, hx, hn⟩ := hall
            exact ⟨x, hx, hn⟩)] at hf
          simp at hf
    · simp only [Prod.mk.injEq] at h
      rw [← h.1]
      simp
  have HBO := Lib.hid hbound
  clear hbound
  go_enter Try.func4, Try.ntmps4
  go_wp2_with fail
  refine HF.out.mono ?_
  rintro e w1 ⟨v1, L, c, hans, rfl, hown, hb⟩
  obtain ⟨A1, k1, rfl, _⟩ := own_slice hown
  have HL := Lib.hid (HBO.out L c hans)
  have HI := Lib.hid (ints_of_own hown)
  have HANS := Lib.hid hans
  have HB := Lib.hid hb
  clear hown hb hans
  go_wp2_with fail
  refine (HR.out w1).mono ?_
  rintro e w2 ⟨v2, L2, c2, hans2, rfl, hown2, hb2⟩
  rw [HANS.out] at hans2
  simp only [Prod.mk.injEq] at hans2
  obtain ⟨rfl, rfl⟩ := hans2
  obtain ⟨A2, k2, rfl, _⟩ := own_slice hown2
  have HS := Lib.hid (ints_same w2 A1 A2 L.length k1 k2 L (ints_low HI.out hb2) (ints_of_own hown2) (by have := HL.out; omega))
  have HB2 := Lib.hid (HB.out.trans (hb2.mono HB.out.size))
  have d3 : ((c : Int) == (c : Int)) = true := beq_self_eq_true _
  generalize L.length = n at *
  clear hown2 hb2
  go_wp2_with fail
  refine HS.out.mono ?_
  rintro e w3 ⟨rfl, m3, rfl⟩
  have HB3 := Lib.hid (below_drewN HB2.out m3)
  generalize w2.drewN m3 = w3 at *
  go_wp2_with fail
  refine (HAW.out w3).mono ?_
  rintro e w4 ⟨rfl, hb4⟩
  have HB4 := Lib.hid (HB3.out.trans (hb4.mono HB3.out.size))
  clear hb4
  go_wp2_with fail
  go_ret
  exact ⟨rfl, HB4.out⟩

set_option maxRecDepth 100000 in
theorem backs_out (w : World) (A : Option Addr) (n c : Nat) (a : ByteArray) (ws : n ≤ maxLen) (wa : a.size ≤ maxLen) (h : 1000 < n ∨ 1000 < a.size) : Calls Try.prog 5 #[.slice A n c, .string a] w fun e w' => e = .returned (.bool true) ∧ Below w.heap.size w w' := by
  unfold maxLen at ws wa
  have HAW := Lib.hid (awake_any R)
  by_cases h1 : 1000 < n
  · have d1 : decide ((1000 : Int) < (n : Int)) = true := decide_eq_true (by omega)
    go_enter Try.func5, Try.ntmps5
    go_wp2_with fail
    refine (HAW.out w).mono ?_
    rintro e w1 ⟨rfl, hb⟩
    have HB := Lib.hid hb
    clear hb
    go_wp2_with fail
    go_ret
    exact ⟨rfl, HB.out⟩
  · have d1 : decide ((1000 : Int) < (n : Int)) = false := decide_eq_false (by omega)
    have h2 : 1000 < a.size := h.resolve_left h1
    have d2 : decide ((1000 : Int) < (a.size : Int)) = true := decide_eq_true (by omega)
    clear h
    go_enter Try.func5, Try.ntmps5
    go_wp2_with fail
    refine (HAW.out w).mono ?_
    rintro e w1 ⟨rfl, hb⟩
    have HB := Lib.hid hb
    clear hb
    go_wp2_with fail
    go_ret
    exact ⟨rfl, HB.out⟩

set_option maxRecDepth 100000 in
theorem backs_walk (w : World) (A : Option Addr) (n c : Nat) (L : List Int) (a : ByteArray) (hL : ZIn w A n L) (hnc : n ≤ c) (h1 : n ≤ 1000) (h2 : a.size ≤ 1000) : Calls Try.prog 5 #[.slice A n c, .string a] w fun e w' => e = .returned (.bool true) ∧ Below w.heap.size w w' := by
  have HAW := Lib.hid (awake_any R)
  have d1 : decide ((1000 : Int) < (n : Int)) = false := decide_eq_false (by omega)
  have d2 : decide ((1000 : Int) < (a.size : Int)) = false := decide_eq_false (by omega)
  have HF := Lib.hid (R.back w A n c L a hL hnc (by omega) (by omega))
  have HR := Lib.hid fun (w1 : World) (h : ZIn w1 A n L) => rback_any w1 A n c L a h (by omega) (by omega)
  have HL := Lib.hid hL
  obtain ⟨u, hu⟩ : ∃ u, u = strB (backAns L a.data.toList).1 := ⟨_, rfl⟩
  obtain ⟨k, hk⟩ : ∃ k, k = (backAns L a.data.toList).2 := ⟨_, rfl⟩
  rw [← hu, ← hk] at HF HR
  clear hL hu hk
  have d3 : ((k : Int) == (k : Int)) = true := beq_self_eq_true _
  go_enter Try.func5, Try.ntmps5
  go_wp2_with fail
  refine HF.out.mono ?_
  rintro e w1 ⟨rfl, hb⟩
  have HL1 := Lib.hid (HL.out.below hb)
  have HB := Lib.hid hb
  clear hb
  go_wp2_with fail
  refine (HR.out w1 HL1.out).mono ?_
  rintro e w2 ⟨rfl, hb2⟩
  have HB2 := Lib.hid (HB.out.trans (hb2.mono HB.out.size))
  clear hb2
  go_wp2_with fail
  refine (HAW.out w2).mono ?_
  rintro e w3 ⟨rfl, hb3⟩
  have HB3 := Lib.hid (HB2.out.trans (hb3.mono HB2.out.size))
  clear hb3
  go_wp2_with fail
  go_ret
  exact ⟨rfl, HB3.out⟩

set_option maxRecDepth 100000 in
theorem shows_out (w : World) (a : ByteArray) (wa : a.size ≤ maxLen) (h : 1000 < a.size) : Calls Try.prog 6 #[.string a] w fun e w' => e = .returned (.bool true) ∧ Below w.heap.size w w' := by
  unfold maxLen at wa
  have HAW := Lib.hid (awake_any R)
  have d1 : decide ((1000 : Int) < (a.size : Int)) = true := decide_eq_true (by omega)
  go_enter Try.func6, Try.ntmps6
  go_wp2_with fail
  refine (HAW.out w).mono ?_
  rintro e w1 ⟨rfl, hb⟩
  have HB := Lib.hid hb
  clear hb
  go_wp2_with fail
  go_ret
  exact ⟨rfl, HB.out⟩

set_option maxHeartbeats 1600000 in
set_option maxRecDepth 100000 in
theorem shows_walk (w : World) (a : ByteArray) (h : a.size ≤ 1000) : Calls Try.prog 6 #[.string a] w fun e w' => e = .returned (.bool true) ∧ Below w.heap.size w w' := by
  have HAW := Lib.hid (awake_any R)
  have d1 : decide ((1000 : Int) < (a.size : Int)) = false := decide_eq_false (by omega)
  have hboth : ∃ (T : ByteArray) (n k : Nat), (∀ w1, Calls Try.prog 18 #[.string a] w1 fun e w' => e = .returned (.tuple #[.agg #[.string T, .int .i64 n], .int .i64 k]) ∧ Below w1.heap.size w1 w') ∧ ∀ w1, Calls Try.prog 19 #[.string a] w1 fun e w' => e = .returned (.tuple #[.agg #[.string T, .int .i64 n], .int .i64 k]) ∧ Below w1.heap.size w1 w' := by
    by_cases hm : MayL a.data.toList
    · exact ⟨_, _, _, fun w1 => R.shows w1 a (by omega) hm, fun w1 => rshow_any w1 a (by omega) hm⟩
    · exact ⟨_, _, _, fun w1 => R.refuses w1 a (by omega) hm, fun w1 => rshow_bad w1 a (by omega) hm⟩
  obtain ⟨T, n, k, hf, hr⟩ := hboth
  have HF := Lib.hid hf
  have HR := Lib.hid hr
  have heq := bits_eql T n
  have hg := guardB
  have d2 : ((k : Int) == (k : Int)) = true := beq_self_eq_true _
  clear hf hr
  go_enter Try.func6, Try.ntmps6
  go_wp2_with fail
  refine (HF.out w).mono ?_
  rintro e w1 ⟨rfl, hb1⟩
  have HB1 := Lib.hid hb1
  have hz1 := hb1.size
  clear hb1
  go_wp2_with fail
  refine (HR.out _).mono ?_
  rintro e w2 ⟨rfl, hb2⟩
  have hk : Blk w2 w1.heap.size 39 #[.string T, .int .i64 n] := (step_of_below hb2).blk (blk_new w1 39 _) List.not_mem_nil List.not_mem_nil
  have hbl : Below w.heap.size w w2 := (HB1.out.alloc hz1 _).trans (hb2.mono (by simp; omega))
  have hlt : w1.heap.size < w2.heap.size := blk_lt hk
  have q0 : w2.cell? ⟨w1.heap.size, 0, none⟩ = some (.string T) := blk_cell hk 0
  have q1 : w2.cell? ⟨w1.heap.size, 1, none⟩ = some (.int .i64 n) := blk_cell hk 1
  have HB2 := Lib.hid hbl
  clear hk hbl hb2
  go_wp2_with fail
  refine (HAW.out _).mono ?_
  rintro e w3 ⟨rfl, hb3⟩
  have HB3 := Lib.hid ((HB2.out.alloc HB2.out.size (.cells #[.string T, .int .i64 n] 39)).trans (hb3.mono (by have := HB2.out.size; simp; omega)))
  clear hb3
  go_wp2_with fail
  go_ret
  exact ⟨rfl, HB3.out⟩

set_option maxRecDepth 100000 in
theorem takes_out (w : World) (s : ByteArray) (p : Int) (ws : s.size ≤ maxLen) (h : 1000 < s.size) : Calls Try.prog 7 #[.string s, .int .i64 p] w fun e w' => e = .returned (.bool true) ∧ Below w.heap.size w w' := by
  unfold maxLen at ws
  have HAW := Lib.hid (awake_any R)
  have d1 : decide ((1000 : Int) < (s.size : Int)) = true := decide_eq_true (by omega)
  go_enter Try.func7, Try.ntmps7
  go_wp2_with fail
  refine (HAW.out w).mono ?_
  rintro e w1 ⟨rfl, hb⟩
  have HB := Lib.hid hb
  clear hb
  go_wp2_with fail
  go_ret
  exact ⟨rfl, HB.out⟩

set_option maxHeartbeats 1600000 in
set_option maxRecDepth 100000 in
theorem takes_walk (w : World) (s : ByteArray) (p : Int) (h : s.size ≤ 1000) (hp1 : -9223372036854775808 ≤ p) (hp2 : p ≤ 9223372036854775807) : Calls Try.prog 7 #[.string s, .int .i64 p] w fun e w' => e = .returned (.bool true) ∧ Below w.heap.size w w' := by
  have HAW := Lib.hid (awake_any R)
  have d1 : decide ((1000 : Int) < (s.size : Int)) = false := decide_eq_false (by omega)
  have HF := Lib.hid (R.take w s p (by omega) hp2 hp1)
  have HO := Lib.hid fun w1 : World => of_any w1 s (by omega)
  have HR := Lib.hid fun (w1 : World) (A : Option Addr) (c : Nat) (hi : IntsIn w1 A (8 * s.size) (bitsB s.data.toList)) (hc : 8 * s.size ≤ c) => rtake_all w1 A (8 * s.size) c p (bitsB s.data.toList) hi hc (by omega) hp2
  generalize takeAns (bitsB s.data.toList) p = ans at *
  obtain ⟨o, q, k⟩ := ans
  obtain ⟨u, hu⟩ : ∃ u, u = strB o := ⟨_, rfl⟩
  have hF : ∀ w1 : World, ∀ e w', TakePost w1 (o, q, k) e w' → e = .returned (.tuple #[.string u, .int .i64 q, .int .i64 k]) ∧ Below w1.heap.size w1 w' := by
    intro w1 e w' h
    rw [hu]
    exact h
  have HFF := Lib.hid hF
  have d2 : ((k : Int) == (k : Int)) = true := beq_self_eq_true _
  have d3 : ((q : Int) == (q : Int)) = true := beq_self_eq_true _
  clear hu hF hp1 hp2
  go_enter Try.func7, Try.ntmps7
  go_wp2_with fail
  refine HF.out.mono ?_
  intro e w1 hpost
  obtain ⟨rfl, hb1⟩ := HFF.out w e w1 hpost
  have HB1 := Lib.hid hb1
  clear hb1 hpost
  go_wp2_with fail
  refine (HO.out w1).mono ?_
  rintro e w2 ⟨v, rfl, hown, hb2⟩
  obtain ⟨A2, c2, rfl, hc2, _, _⟩ := own_slice hown
  have HRR := Lib.hid (HR.out w2 A2 c2 (ints_of_own hown) hc2)
  have HB2 := Lib.hid (HB1.out.trans (hb2.mono HB1.out.size))
  clear hown hb2
  generalize 8 * s.size = n8 at *
  go_wp2_with fail
  refine HRR.out.mono ?_
  intro e w3 hpost
  obtain ⟨rfl, hb3⟩ := HFF.out w2 e w3 hpost
  have HB3 := Lib.hid (HB2.out.trans (hb3.mono HB2.out.size))
  clear hb3 hpost
  go_wp2_with fail
  refine (HAW.out w3).mono ?_
  rintro e w4 ⟨rfl, hb4⟩
  have HB4 := Lib.hid (HB3.out.trans (hb4.mono HB3.out.size))
  clear hb4
  go_wp2_with fail
  go_ret
  exact ⟨rfl, HB4.out⟩
end

end Go.Proofs.Ytcmhcfbmjceioaa
