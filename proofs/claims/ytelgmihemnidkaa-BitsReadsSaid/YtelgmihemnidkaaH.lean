/- The law BitsReads, walked: for every text, place and list of questions it returns true. No conditions. -/
import Derived.Test.YtelgmihemnidkaaG
import Derived.ChangeMaps5
namespace Go.Proofs.Ytelgmihemnidkaa
open Go.RowKit

theorem reads_big (w : World) (s : ByteArray) (at' : Int) (A : Option Addr) (n c : Nat) (hs : s.size ≤ maxLen) (hn : n ≤ maxLen) (h : 1000 < s.size ∨ 300 < n) :
    Calls Try.prog 4 #[.string s, .int .i64 at', .slice A n c] w fun e w' => e = .returned (.bool true) ∧ Below w.heap.size w w' := by
  unfold maxLen at hs hn
  by_cases h1 : 1000 < s.size
  · go_enter Try.func4, Try.ntmps4
    go_wp2_with (go_at_call 10; refine (awake_any _).mono ?_; rintro e w' ⟨rfl, hbw⟩)
    go_ret
    exact ⟨rfl, hbw⟩
  · have h2 : 300 < n := by omega
    have h3 : s.size ≤ 1000 := by omega
    clear h h1
    go_enter Try.func4, Try.ntmps4
    go_wp2_with (go_at_call 10; refine (awake_any _).mono ?_; rintro e w' ⟨rfl, hbw⟩)
    go_ret
    exact ⟨rfl, hbw⟩

theorem reads_nil (w : World) (s : ByteArray) (at' : Int) (A : Option Addr) (n c : Nat) (hs : s.size ≤ 1000) (hn : n ≤ 300) (h : at' < 0 ∨ 8 * (s.size : Int) < at') :
    Calls Try.prog 4 #[.string s, .int .i64 at', .slice A n c] w fun e w' => e = .returned (.bool true) ∧ Below w.heap.size w w' := by
  by_cases h1 : at' < 0
  · clear h
    go_enter Try.func4, Try.ntmps4
    go_wp2_with fail
    refine (newR_none _ s at' (by omega) (.inl h1)).mono ?_
    rintro e w' ⟨rfl, rfl⟩
    go_wp2_with fail
    refine (of_any _ s (by omega)).mono ?_
    rintro e w1 ⟨v, rfl, ho, hb⟩
    obtain ⟨Al, cl, hv, _, _, _⟩ := own_slice ho
    rw [hv]
    have HV := Lib.hid hv
    clear hv
    go_wp2_with (go_at_call 10; refine (awake_any _).mono ?_; rintro e w' ⟨rfl, hbw⟩)
    go_ret
    exact ⟨rfl, hb.trans (hbw.mono hb.size)⟩
  · have h2 : 8 * (s.size : Int) < at' := by omega
    have h3 : 0 ≤ at' := by omega
    clear h h1
    go_enter Try.func4, Try.ntmps4
    go_wp2_with fail
    refine (newR_none _ s at' (by omega) (.inr h2)).mono ?_
    rintro e w' ⟨rfl, rfl⟩
    go_wp2_with fail
    refine (of_any _ s (by omega)).mono ?_
    rintro e w1 ⟨v, rfl, ho, hb⟩
    obtain ⟨Al, cl, hv, _, _, _⟩ := own_slice ho
    rw [hv]
    have HV := Lib.hid hv
    clear hv
    go_wp2_with (go_at_call 10; refine (awake_any _).mono ?_; rintro e w' ⟨rfl, hbw⟩)
    go_ret
    exact ⟨rfl, hb.trans (hbw.mono hb.size)⟩

set_option maxRecDepth 100000 in
set_option maxHeartbeats 1600000 in
theorem reads_walk (w : World) (s : ByteArray) (a0 : Nat) (A : Option Addr) (n c : Nat) (U : Nat → Bool) (N : Nat → Int) (hp : PairsIn w w.heap.size A n (fun i => .bool (U i)) (fun i => .int .i64 (N i))) (hN : ∀ i, i < n → -9223372036854775808 ≤ N i ∧ N i ≤ 9223372036854775807) (hs : s.size ≤ 1000) (hn : n ≤ 300) (ha0 : a0 ≤ 8 * s.size) :
    Calls Try.prog 4 #[.string s, .int .i64 a0, .slice A n c] w fun e w' => e = .returned (.bool true) ∧ Below w.heap.size w w' := by
  go_enter Try.func4, Try.ntmps4
  go_wp2_with fail
  refine (newR_yes _ s a0 (by omega) (by omega) (by omega)).mono ?_
  rintro e w1 ⟨rfl, hw1⟩
  have hR1 : IsR w.heap.size w1 w.heap.size s a0 := by rw [hw1]; exact isR_new w _ (Nat.le_refl _) s a0
  have hb1 : Below w.heap.size w w1 := by rw [hw1]; exact (Below.refl _ _).alloc (Nat.le_refl _) _
  have HW1 := Lib.hid hw1
  clear hw1
  have hz1 := hb1.size
  go_wp2_with fail
  refine (of_any _ s (by omega)).mono ?_
  rintro e w2 ⟨v, rfl, ho, hb2⟩
  have hs2 := step_of_below hb2
  have hR2 := hR1.step hs2 (by simp) (by simp)
  have hb2' : Below w.heap.size w w2 := hb1.trans (hb2.mono hz1)
  obtain ⟨Al, cl, hv, hcl, hcm, _⟩ := own_slice ho
  rw [hv] at ho ⊢
  have HV := Lib.hid hv
  clear hv
  go_wp2_with fail
  go_loopw [1, 9] (fun at' i wr => ∃ j a : Nat, j ≤ n ∧ a ≤ 8 * s.size ∧ i = .int .i64 j ∧ at' = .int .i64 a ∧ IsR w.heap.size wr w.heap.size s a ∧ wr.ownsRow w1.heap.size 3 1 (.slice Al (8 * s.size) cl) (8 * s.size) ((bitsB s.data.toList).map iv) ∧ Below w.heap.size w wr) (fun _ i _ => n - (intOf i).toNat)
  case atStart => exact ⟨0, a0, Nat.zero_le _, ha0, rfl, rfl, hR2, ho, hb2'⟩
  case round =>
    obtain ⟨j, a, hj, ha, rfl, rfl, hR, hown, hb⟩ := hrel
    by_cases h : j < n
    · obtain ⟨b, off, rfl, hbB, hc⟩ := hp (by omega)
      have g1 : wr.cell? ⟨b, off + j * 2, none⟩ = some (.bool (U j)) := (hb.cell (p := ⟨b, off + j * 2, none⟩) hbB).trans (hc j h).1
      have g2 : wr.cell? ⟨b, off + j * 2 + 1, none⟩ = some (.int .i64 (N j)) := (hb.cell (p := ⟨b, off + j * 2 + 1, none⟩) hbB).trans (hc j h).2
      have HN := hN j h
      clear hc
      by_cases hU : U j = true
      · rw [hU] at g1
        have HU := Lib.hid hU
        clear hU
        obtain ⟨x, y, d, h1, h2, h3, h4, h5⟩ := unary_both s hs a ha (N j) HN.2
        have H1 := Lib.hid h1
        have H2 := Lib.hid h2
        clear h1 h2
        by_cases hy : y = 0
        · obtain rfl : y = 0 := hy
          obtain rfl : d = x + 1 := by rcases h3 with h3 | h3 <;> omega
          clear h3 h5
          go_wp2_with fail
          refine (H1.out _ _ _ hR).mono ?_
          rintro e w3 ⟨rfl, hR3, hS3⟩
          have ho3 := hS3.row hown (fun g hg => by simpa using row_ne hown hR.blk (by decide) g hg) (by simp)
          have g2' := (hS3.below.cell (p := ⟨b, off + j * 2 + 1, none⟩) hbB).trans g2
          have hb3 := hb.trans hS3.below
          go_wp2_with fail
          refine (H2.out _ _ _ (ints_of_own ho3)).mono ?_
          rintro e w' ⟨rfl, rfl⟩
          go_wp2_with fail
          refine (atR hR3).mono ?_
          rintro e w' ⟨rfl, rfl⟩
          go_wp2_with fail
          refine (leftR hR3 h4 (by omega)).mono ?_
          rintro e w' ⟨rfl, kk, rfl⟩
          go_wp2_with fail
          go_roundw
          case rel => exact ⟨j + 1, a + (x + 1), h, h4, by go_num, by go_num, ⟨hR3.lo, hR3.blk⟩, ho3, below_drewN hb3 kk⟩
          case measure => simp [intOf]; omega
        · obtain rfl : d = 0 := by rcases h3 with h3 | h3 <;> omega
          have hy1 : ((y : Int) == 0) = false := by rw [beq_eq_false_iff_ne]; omega
          have hy2 : 0 < y := by omega
          clear hy
          clear h3 h5
          go_wp2_with fail
          refine (H1.out _ _ _ hR).mono ?_
          rintro e w3 ⟨rfl, hR3, hS3⟩
          have ho3 := hS3.row hown (fun g hg => by simpa using row_ne hown hR.blk (by decide) g hg) (by simp)
          have g2' := (hS3.below.cell (p := ⟨b, off + j * 2 + 1, none⟩) hbB).trans g2
          have hb3 := hb.trans hS3.below
          go_wp2_with fail
          refine (H2.out _ _ _ (ints_of_own ho3)).mono ?_
          rintro e w' ⟨rfl, rfl⟩
          go_wp2_with fail
          refine (atR hR3).mono ?_
          rintro e w' ⟨rfl, rfl⟩
          go_wp2_with fail
          refine (leftR hR3 h4 (by omega)).mono ?_
          rintro e w' ⟨rfl, kk, rfl⟩
          go_wp2_with fail
          go_roundw
          case rel => exact ⟨j + 1, a + 0, h, h4, by go_num, by go_num, ⟨hR3.lo, hR3.blk⟩, ho3, below_drewN hb3 kk⟩
          case measure => simp [intOf]; omega
      · have hU' : U j = false := by simpa using hU
        rw [hU'] at g1
        have HU := Lib.hid hU'
        clear hU hU'
        obtain ⟨x, y, d, h1, h2, h3, h4, h5⟩ := take_both s hs a ha (N j)
        have H1 := Lib.hid h1
        have H2 := Lib.hid h2
        clear h1 h2
        by_cases hy : y = 0
        · obtain rfl : y = 0 := hy
          have hnd : N j = d := by rcases h3 with h3 | h3 <;> omega
          rw [hnd] at g2 H1 H2
          have HND := Lib.hid hnd
          clear hnd
          clear h3 h5
          go_wp2_with fail
          refine (H1.out _ _ _ hR).mono ?_
          rintro e w3 ⟨rfl, hR3, hS3⟩
          have ho3 := hS3.row hown (fun g hg => by simpa using row_ne hown hR.blk (by decide) g hg) (by simp)
          have g2' := (hS3.below.cell (p := ⟨b, off + j * 2 + 1, none⟩) hbB).trans g2
          have hb3 := hb.trans hS3.below
          go_wp2_with fail
          refine (H2.out _ _ _ hcl hcm (ints_of_own ho3)).mono ?_
          rintro e w' ⟨rfl, rfl⟩
          go_wp2_with fail
          refine (atR hR3).mono ?_
          rintro e w' ⟨rfl, rfl⟩
          go_wp2_with fail
          refine (leftR hR3 h4 (by omega)).mono ?_
          rintro e w' ⟨rfl, kk, rfl⟩
          go_wp2_with fail
          go_roundw
          case rel => exact ⟨j + 1, a + d, h, h4, by go_num, by go_num, ⟨hR3.lo, hR3.blk⟩, ho3, below_drewN hb3 kk⟩
          case measure => simp [intOf]; omega
        · obtain rfl : d = 0 := by rcases h3 with h3 | h3 <;> omega
          have hy1 : ((y : Int) == 0) = false := by rw [beq_eq_false_iff_ne]; omega
          have hy2 : 0 < y := by omega
          clear hy
          clear h3 h5
          go_wp2_with fail
          refine (H1.out _ _ _ hR).mono ?_
          rintro e w3 ⟨rfl, hR3, hS3⟩
          have ho3 := hS3.row hown (fun g hg => by simpa using row_ne hown hR.blk (by decide) g hg) (by simp)
          have g2' := (hS3.below.cell (p := ⟨b, off + j * 2 + 1, none⟩) hbB).trans g2
          have hb3 := hb.trans hS3.below
          go_wp2_with fail
          refine (H2.out _ _ _ hcl hcm (ints_of_own ho3)).mono ?_
          rintro e w' ⟨rfl, rfl⟩
          go_wp2_with fail
          refine (atR hR3).mono ?_
          rintro e w' ⟨rfl, rfl⟩
          go_wp2_with fail
          refine (leftR hR3 h4 (by omega)).mono ?_
          rintro e w' ⟨rfl, kk, rfl⟩
          go_wp2_with fail
          go_roundw
          case rel => exact ⟨j + 1, a + 0, h, h4, by go_num, by go_num, ⟨hR3.lo, hR3.blk⟩, ho3, below_drewN hb3 kk⟩
          case measure => simp [intOf]; omega
    · go_wp2_with (go_at_call 10; refine (awake_any _).mono ?_; rintro e w' ⟨rfl, hbw⟩)
      go_ret
      exact ⟨rfl, hb.trans (hbw.mono hb.size)⟩

end Go.Proofs.Ytelgmihemnidkaa
namespace Go.Proofs.Ytelgmihemnidkaa.BitsReads
open Go.ChangeShapes Go.WideShapes Go.ChangeAt Go.RowKit

set_option maxRecDepth 100000 in
theorem lifted (os : Os) (started : os.Started) (H : Type) (enc : TypeId × Value → H) :
    ReturnsInHanded {} Try.checked os 4 .any (Rows.bitsReadsSpec.pre6 enc Try.prog Try.f4 Rows.bitsReadsRow.domain false) (Rows.bitsReadsSpec.post enc Try.prog Try.f4 false true false false) := by
  refine returnsInHanded_of_change (C := Try.checked) own started (by kernel_rfl) Try.func4
    (ChangeSpec.witness6 (enc := enc) (C := Try.checked) false ⟨#[], #[.string ⟨#[]⟩, .int .i64 0, .slice none 0 0], []⟩ 8 (by kernel_rfl) (by kernel_rfl) (by kernel_rfl) (by kernel_rfl)) ?_
  intro W base args ds gs before hval0 hW hcnd _
  have hval : ∀ (j : Nat) t v, Try.f4.params[j]? = some t → args[j]? = some v → Value.okWide Try.prog W .any base t v := hval0
  have hW' := hW
  obtain ⟨p, q, hA0, hV, rfl, hfz, hnd⟩ := hW
  have hA : DataW.TrodAll enc Try.prog W 0 (fun _ => true) true Try.f4.params.toList args.toList ds p := hA0
  rw [Try.params4] at hA hval
  obtain ⟨v0, vs0, d0, ds0, p0, q0, hargs, rfl, rfl, h0, r0⟩ := trodAll_cons hA
  obtain ⟨v1, vs1, d1, ds1, p1, q1, rfl, rfl, rfl, h1, r1⟩ := trodAll_cons r0
  obtain ⟨v2, vs2, d2, ds2, p2, q2, rfl, rfl, rfl, h2, r2⟩ := trodAll_cons r1
  obtain ⟨rfl, rfl, rfl⟩ := trodAll_nil r2
  obtain rfl : args = #[v0, v1, v2] := by cases args; simp_all
  obtain ⟨rfl, rfl⟩ := trodVars_none hV
  obtain ⟨s, rfl, rfl, rfl, ws⟩ := Go.ChangeMaps.open_string Try.underlying9 (hval 0 9 v0 rfl rfl) h0
  obtain ⟨a1, rfl, rfl, rfl, w1⟩ := open_int Try.underlying3 (hval 1 3 v1 rfl rfl) h1
  obtain ⟨A, n, c, rfl⟩ := okWide_slice Try.underlying38 (hval 2 38 v2 rfl rfl)
  obtain ⟨U, N, hnc, hm, hp, hN'⟩ := open_asks h2
  clear hA0 hval0
  have fin : ∀ e W', (e = Ending.returned (.bool true) ∧ Below W.heap.size W W') → ∃ v, e = Ending.returned v ∧ Rows.bitsReadsSpec.post enc Try.prog Try.f4 false true false false W #[.string s, .int .i64 a1, .slice A n c] v W' := by
    rintro e W' ⟨rfl, hb⟩
    exact ⟨_, rfl, law_done hW' rfl hb (by kernel_rfl) (by kernel_rfl) rfl⟩
  by_cases hbig : 1000 < s.size ∨ 300 < n
  · exact (reads_big W s a1 A n c ws hm hbig).mono fin
  · by_cases ha : a1 < 0 ∨ 8 * (s.size : Int) < a1
    · exact (reads_nil W s a1 A n c (by omega) (by omega) ha).mono fin
    · obtain ⟨a0, rfl⟩ := Int.eq_ofNat_of_zero_le (show 0 ≤ a1 by omega)
      exact (reads_walk W s a0 A n c U N hp hN' (by omega) (by omega) (by omega)).mono fin

theorem over : Rows.bitsReadsRow.holds Try.pinned (OpenSpec.ofChange Rows.bitsReadsSpec) :=
  OpenClaim.holds_of_wide 4 Try.f4 rfl rfl rfl rfl rfl rfl rfl ⟨rfl, rfl, rfl, rfl, rfl⟩ rfl rfl rfl rfl rfl (by kernel_rfl) Try.func4 (by kernel_rfl)
    (of_decide_eq_true (by kernel_rfl)) (by unfold Func.isWrapper; first | (rw [if_pos (by decide +kernel)]; kernel_rfl) | (rw [if_neg (by decide +kernel)]; exact ⟨rfl, rfl⟩))
    (fun os started H enc _ => lifted os started H enc)

end Go.Proofs.Ytelgmihemnidkaa.BitsReads
namespace Go.Proofs.Ytelgmihemnidkaa
/-- The given statement. -/
theorem bitsReads_holds : Rows.BitsReadsSaid := BitsReads.over
#print axioms bitsReads_holds
end Go.Proofs.Ytelgmihemnidkaa
