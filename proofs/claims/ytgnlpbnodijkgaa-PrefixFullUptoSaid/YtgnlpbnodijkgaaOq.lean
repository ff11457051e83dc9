/- The law PrefixFree, walked over what is asked of the code's functions. Written ahead of stage 9. -/
import Derived.Test.YtgnlpbnodijkgaaOm
namespace Go.Proofs.Ytgnlpbnodijkgaa
open Go.RowKit

/-- How the codes of two symbols stand to each other. -/
theorem code_apart {l : List Nat} (h : Fits l) {i j : Nat} (hi : i < l.length) (hj : j < l.length) (hne : i ≠ j) (hle : l.getD i 0 ≤ l.getD j 0) :
    codeN l j / 2 ^ (l.getD j 0 - l.getD i 0) ≠ codeN l i ∧ (l.getD i 0 < l.getD j 0 → codeN l i ≤ codeN l j / 2 ^ (l.getD j 0 - l.getD i 0)) ∧ (l.getD i 0 = l.getD j 0 → i < j → codeN l i < codeN l j) := by
  have htop := code_top h hj (n := l.getD i 0) hle
  have hpw := pw_pos (l.getD i 0)
  have hci : codeN l i = lie l i / pw (l.getD i 0) := rfl
  have hli := code_lie h hi
  have up : l.getD i 0 < l.getD j 0 ∨ (l.getD i 0 = l.getD j 0 ∧ i < j) → codeN l i < codeN l j / 2 ^ (l.getD j 0 - l.getD i 0) := by
    intro ho
    have ha := lie_apart hi ho
    rw [htop]
    have : codeN l i + 1 ≤ lie l j / pw (l.getD i 0) := by
      rw [Nat.le_div_iff_mul_le hpw, Nat.add_mul, Nat.one_mul, hli]
      exact ha
    omega
  refine ⟨?_, fun hlt => Nat.le_of_lt (up (.inl hlt)), fun he hij => ?_⟩
  · by_cases ho : l.getD i 0 < l.getD j 0 ∨ (l.getD i 0 = l.getD j 0 ∧ i < j)
    · have := up ho
      omega
    · have he : l.getD j 0 = l.getD i 0 := by omega
      have ha := lie_apart hj (j := i) (.inr ⟨he, by omega⟩)
      rw [he] at ha
      rw [he, Nat.sub_self, Nat.pow_zero, Nat.div_one]
      have hlj := code_lie h hj
      rw [he] at hlj
      intro e
      rw [← hli, ← hlj, e] at ha
      omega
  · have := up (.inr ⟨he, hij⟩)
    rw [he, Nat.sub_self, Nat.pow_zero, Nat.div_one] at this
    exact this

theorem code_small' {l : List Nat} (h : Fits l) {i : Nat} (hi : i < l.length) : codeN l i < 1048576 := code_small h hi

section
variable {S N : Nat} (R : PrefixDone S N) (hS : 200 ≤ S)
include R hS

set_option maxHeartbeats 3200000 in
set_option maxRecDepth 100000 in
theorem free_walk (w : World) (A : Option Addr) (n c : Nat) (L : List Int) (hz : ZIn w A n L) (hnc : n ≤ c) (hn : n ≤ maxLen) : Calls Try.prog 7 #[.slice A n c] w fun e w' => e = .returned (.bool true) ∧ Below w.heap.size w w' := by
  have HAW := Lib.hid (awake_any R (by omega))
  have HC := Lib.hid (R.codes w A n c L hz hnc hn)
  by_cases hok : LenOk L
  · have hans : codesAns L = ((List.range L.length).map (codeN (nl L)), 0) := by rw [codesAns, if_pos hok]
    rw [hans] at HC
    have hln := hz.1
    rw [hln] at HC
    have hn258 : n ≤ 258 := by have := hok.2.1; omega
    have hn2 : 2 ≤ n := by have := hok.1; omega
    have hfit := fits_of hok
    obtain ⟨l, hl⟩ : ∃ l, l = nl L := ⟨_, rfl⟩
    have hll : l.length = n := by rw [hl, nl_length, hln]
    rw [← hl] at HC hfit
    have HF := Lib.hid hfit
    have HLL := Lib.hid hll
    obtain ⟨b, off, rfl, hcells⟩ := hz.2 (by omega)
    have hget : ∀ i, i < n → w.cell? ⟨b, off + i, none⟩ = some (.int .i64 (l.getD i 0 : Nat)) := by
      intro i hi
      rw [hcells i hi, hl, nl_get]
      have : 0 ≤ L.getD i 0 := by
        rw [List.getD_eq_getElem?_getD, List.getElem?_eq_getElem (by omega)]
        have := (hok.2.2.1 L[i] (List.getElem_mem ..)).1
        show (0 : Int) ≤ L[i]
        omega
      rw [Int.toNat_of_nonneg this]
    have HGET := Lib.hid hget
    clear hz hans hln hok hl hll hfit hcells hget
    go_enter Try.func7, Try.ntmps7
    go_wp2_with fail
    refine HC.out.mono ?_
    intro e w1 h
    obtain ⟨A1, c1, rfl, hc1, hi1, hb1⟩ := list_slice h
    dsimp only at hi1 hc1 ⊢
    have hlen : ((List.range n).map (codeN l)).length = n := by rw [List.length_map, List.length_range]
    rw [hlen] at hi1 hc1 ⊢
    obtain ⟨b1, off1, rfl, hcode⟩ := hi1.2 (by omega)
    have hcode2 : ∀ i, i < n → w1.cell? ⟨b1, off1 + i, none⟩ = some (.int .i64 (codeN l i : Nat)) := by
      intro i hi
      rw [hcode i hi, range_getD n (codeN l) i hi]
    have hget1 : ∀ i, i < n → w1.cell? ⟨b, off + i, none⟩ = some (.int .i64 (l.getD i 0 : Nat)) := fun i hi => (hb1.cell (p := ⟨b, off + i, none⟩) (World.block_lt_of_cell? w _ (HGET.out i hi))).trans (HGET.out i hi)
    have HCODE := Lib.hid hcode2
    have HGET1 := Lib.hid hget1
    have HB1 := Lib.hid hb1
    clear h hi1 hb1 hlen hcode hcode2 hget1 HGET
    go_wp2_with fail
    go_loopw [5] (fun iv' wx => ∃ i : Nat, i ≤ n ∧ iv' = .int .i64 i ∧ ∃ d, wx = w1.drewN d) (fun iv' _ => n - (intOf iv').toNat)
    case atStart => exact ⟨0, Nat.zero_le _, rfl, 0, rfl⟩
    case round =>
      obtain ⟨i, hi, rfl, hd⟩ := hrel
      have HD := Lib.hid hd
      by_cases e : i < n
      · have d0 : decide ((i : Int) < (n : Int)) = true := decide_eq_true (by omega)
        have hci : wr.cell? ⟨b1, off1 + i, none⟩ = some (.int .i64 (codeN l i : Nat)) := by
          obtain ⟨d, rfl⟩ := hd
          exact HCODE.out i e
        have hxi : wr.cell? ⟨b, off + i, none⟩ = some (.int .i64 (l.getD i 0 : Nat)) := by
          obtain ⟨d, rfl⟩ := hd
          exact HGET1.out i e
        have hil : i < l.length := by rw [HLL.out]; exact e
        have hone := HF.out.one hil
        have hlt := code_lt HF.out hil
        obtain ⟨ci, hci2⟩ : ∃ ci, ci = codeN l i := ⟨_, rfl⟩
        obtain ⟨xi, hxi2⟩ : ∃ xi, xi = l.getD i 0 := ⟨_, rfl⟩
        rw [← hci2] at hci hlt
        rw [← hxi2] at hxi hone hlt
        obtain ⟨P, hP⟩ : ∃ P, P = 2 ^ xi := ⟨_, rfl⟩
        have hPz : (2 : Int) ^ xi = (P : Int) := by rw [hP]; simp
        rw [← hP] at hlt
        have hPb : P ≤ 1048576 := by
          rw [hP]
          have h4 : (2 : Nat) ^ 20 = 1048576 := by decide
          rw [← h4]
          exact Nat.pow_le_pow_right (by decide) hone.2
        have hcib : ci < 1048576 := by omega
        have d1 : decide ((ci : Int) < 0) = false := decide_eq_false (by omega)
        have hPle : ¬ P ≤ ci := by omega
        have d2 : decide ((P : Int) ≤ (ci : Int)) = false := decide_eq_false (by omega)
        obtain ⟨hx1, hx20⟩ := hone
        have HCI := Lib.hid hci2
        have HXI := Lib.hid hxi2
        have HIL := Lib.hid hil
        clear hd hci2 hxi2 hP hil hlt
        go_wp2_with fail
        go_quiet (fail)
        go_wp2_with fail
        go_loopw [6] (fun jv wx => ∃ j : Nat, j ≤ n ∧ jv = .int .i64 j ∧ ∃ d, wx = w1.drewN d) (fun jv _ => n - (intOf jv).toNat)
        case atStart =>
          obtain ⟨d, hd⟩ := HD.out
          exact ⟨0, Nat.zero_le _, rfl, d + nq, by rw [hd]; simp⟩
        case round =>
          rename World => wj
          obtain ⟨j, hj, rfl, hdj⟩ := hrel
          have HDJ := Lib.hid hdj
          by_cases ej : j < n
          · have d3 : decide ((j : Int) < (n : Int)) = true := decide_eq_true (by omega)
            have hcj : wj.cell? ⟨b1, off1 + j, none⟩ = some (.int .i64 (codeN l j : Nat)) := by
              obtain ⟨d, rfl⟩ := hdj
              exact HCODE.out j ej
            have hxj : wj.cell? ⟨b, off + j, none⟩ = some (.int .i64 (l.getD j 0 : Nat)) := by
              obtain ⟨d, rfl⟩ := hdj
              exact HGET1.out j ej
            have hci4 : wj.cell? ⟨b1, off1 + i, none⟩ = some (.int .i64 ci) := by
              obtain ⟨d, rfl⟩ := hdj
              rw [HCI.out]
              exact HCODE.out i e
            have hxi4 : wj.cell? ⟨b, off + i, none⟩ = some (.int .i64 xi) := by
              obtain ⟨d, rfl⟩ := hdj
              rw [HXI.out]
              exact HGET1.out i e
            have hjl : j < l.length := by rw [HLL.out]; exact ej
            have honej := HF.out.one hjl
            have hltj := code_small' HF.out hjl
            have hapart := fun h1 h2 => code_apart HF.out (i := i) (j := j) HIL.out hjl h1 h2
            obtain ⟨cj, hcj2⟩ : ∃ cj, cj = codeN l j := ⟨_, rfl⟩
            obtain ⟨xj, hxj2⟩ : ∃ xj, xj = l.getD j 0 := ⟨_, rfl⟩
            rw [← hcj2] at hcj hltj
            rw [← hxj2] at hxj honej
            rw [← hcj2, ← hxj2, ← HCI.out, ← HXI.out] at hapart
            obtain ⟨hj1, hj20⟩ := honej
            clear hdj hjl hcj2 hxj2
            by_cases eij : i = j
            · have d4 : ((i : Int) == (j : Int)) = true := by rw [eij]; exact beq_self_eq_true _
              clear hapart eij
              go_wp2_with fail
              go_quiet (fail)
              go_wp2_with fail
              go_roundw
              case rel =>
                obtain ⟨d, hd⟩ := HDJ.out
                exact ⟨j + 1, by omega, by go_num, d + nq, by rw [hd]; simp⟩
              case measure => simp [intOf]; omega
            · have d4 : ((i : Int) == (j : Int)) = false := by
                rw [beq_eq_false_iff_ne]
                omega
              by_cases egt : xj < xi
              · have d5 : decide ((xj : Int) < (xi : Int)) = true := decide_eq_true (by omega)
                clear hapart eij
                go_wp2_with fail
                go_quiet (fail)
                go_wp2_with fail
                go_roundw
                case rel =>
                  obtain ⟨d, hd⟩ := HDJ.out
                  exact ⟨j + 1, by omega, by go_num, d + nq, by rw [hd]; simp⟩
                case measure => simp [intOf]; omega
              · have d5 : decide ((xj : Int) < (xi : Int)) = false := decide_eq_false (by omega)
                obtain ⟨q1, q2, q3⟩ := hapart eij (by omega)
                obtain ⟨dd, hdd⟩ : ∃ dd, dd = xj - xi := ⟨_, rfl⟩
                have hdz : (xj : Int) - (xi : Int) = (dd : Int) := by omega
                have hdb : dd ≤ 20 := by omega
                rw [← hdd] at q1 q2
                obtain ⟨t, ht⟩ : ∃ t, t = cj / 2 ^ dd := ⟨_, rfl⟩
                have htz : (cj : Int) / (2 : Int) ^ dd = (t : Int) := by rw [ht]; simp
                have htb : t < 1048576 := by rw [ht]; exact Nat.lt_of_le_of_lt (Nat.div_le_self _ _) hltj
                rw [← ht] at q1 q2
                have d6 : ((t : Int) == (ci : Int)) = false := by
                  rw [beq_eq_false_iff_ne]
                  omega
                clear hdd ht eij
                by_cases elt : xi < xj
                · have d7 : decide ((xi : Int) < (xj : Int)) = true := decide_eq_true (by omega)
                  have q4 := q2 elt
                  have d8 : decide ((t : Int) < (ci : Int)) = false := decide_eq_false (by omega)
                  have d9 : ((xi : Int) == (xj : Int)) = false := by
                    rw [beq_eq_false_iff_ne]
                    omega
                  have n8 : ¬ t < ci := by omega
                  clear q1 q2 q3 q4
                  go_wp2_with fail
                  go_quiet (fail)
                  go_wp2_with fail
                  have f1 : (wj.drewN nq).cell? ⟨b1, off1 + j, none⟩ = some (.int .i64 cj) := hcj
                  have f2 : (wj.drewN nq).cell? ⟨b, off + j, none⟩ = some (.int .i64 xj) := hxj
                  have f3 : (wj.drewN nq).cell? ⟨b1, off1 + i, none⟩ = some (.int .i64 ci) := hci4
                  have f4 : (wj.drewN nq).cell? ⟨b, off + i, none⟩ = some (.int .i64 xi) := hxi4
                  have f5 : Hid (∃ d, wj.drewN nq = w1.drewN d) := Lib.hid (by
                    obtain ⟨d, hd⟩ := HDJ.out
                    exact ⟨d + nq, by rw [hd]; simp⟩)
                  generalize wj.drewN nq = w5 at *
                  clear hcj hxj hci4 hxi4 hci hxi
                  simp only [List.append_eq, List.cons_append, List.nil_append]
                  go_quiet (fail)
                  go_wp2_with fail
                  go_roundw
                  case rel =>
                    obtain ⟨d, hd⟩ := f5.out
                    exact ⟨j + 1, by omega, by go_num, by rw [hd]; exact ⟨d + _, World.drewN_drewN w1 _ _⟩⟩
                  case measure => simp [intOf]; omega
                · have d7 : decide ((xi : Int) < (xj : Int)) = false := decide_eq_false (by omega)
                  have d8 : ((xi : Int) == (xj : Int)) = true := by
                    rw [beq_iff_eq]
                    omega
                  have hxe : xi = xj := by omega
                  by_cases eij2 : i < j
                  · have d9 : decide ((i : Int) < (j : Int)) = true := decide_eq_true (by omega)
                    have q4 := q3 hxe eij2
                    have d10 : decide ((cj : Int) ≤ (ci : Int)) = false := decide_eq_false (by omega)
                    have n8 : ¬ cj ≤ ci := by omega
                    clear q1 q2 q3 q4 hxe
                    go_wp2_with fail
                    go_quiet (fail)
                    go_wp2_with fail
                    have f1 : (wj.drewN nq).cell? ⟨b1, off1 + j, none⟩ = some (.int .i64 cj) := hcj
                    have f2 : (wj.drewN nq).cell? ⟨b, off + j, none⟩ = some (.int .i64 xj) := hxj
                    have f3 : (wj.drewN nq).cell? ⟨b1, off1 + i, none⟩ = some (.int .i64 ci) := hci4
                    have f4 : (wj.drewN nq).cell? ⟨b, off + i, none⟩ = some (.int .i64 xi) := hxi4
                    have f5 : Hid (∃ d, wj.drewN nq = w1.drewN d) := Lib.hid (by
                      obtain ⟨d, hd⟩ := HDJ.out
                      exact ⟨d + nq, by rw [hd]; simp⟩)
                    generalize wj.drewN nq = w5 at *
                    clear hcj hxj hci4 hxi4 hci hxi
                    simp only [List.append_eq, List.cons_append, List.nil_append]
                    go_quiet (fail)
                    go_wp2_with fail
                    go_roundw
                    case rel =>
                      obtain ⟨d, hd⟩ := f5.out
                      exact ⟨j + 1, by omega, by go_num, by rw [hd]; exact ⟨d + _, World.drewN_drewN w1 _ _⟩⟩
                    case measure => simp [intOf]; omega
                  · have d9 : decide ((i : Int) < (j : Int)) = false := decide_eq_false (by omega)
                    clear q1 q2 q3 hxe
                    go_wp2_with fail
                    go_quiet (fail)
                    go_wp2_with fail
                    have f1 : (wj.drewN nq).cell? ⟨b1, off1 + j, none⟩ = some (.int .i64 cj) := hcj
                    have f2 : (wj.drewN nq).cell? ⟨b, off + j, none⟩ = some (.int .i64 xj) := hxj
                    have f3 : (wj.drewN nq).cell? ⟨b1, off1 + i, none⟩ = some (.int .i64 ci) := hci4
                    have f4 : (wj.drewN nq).cell? ⟨b, off + i, none⟩ = some (.int .i64 xi) := hxi4
                    have f5 : Hid (∃ d, wj.drewN nq = w1.drewN d) := Lib.hid (by
                      obtain ⟨d, hd⟩ := HDJ.out
                      exact ⟨d + nq, by rw [hd]; simp⟩)
                    generalize wj.drewN nq = w5 at *
                    clear hcj hxj hci4 hxi4 hci hxi
                    simp only [List.append_eq, List.cons_append, List.nil_append]
                    go_quiet (fail)
                    go_wp2_with fail
                    go_roundw
                    case rel =>
                      obtain ⟨d, hd⟩ := f5.out
                      exact ⟨j + 1, by omega, by go_num, by rw [hd]; exact ⟨d + _, World.drewN_drewN w1 _ _⟩⟩
                    case measure => simp [intOf]; omega
          · obtain rfl : j = n := by omega
            have d3 : decide ((j : Int) < (j : Int)) = false := decide_eq_false (by omega)
            clear hdj
            go_wp2_with fail
            go_roundw
            case rel => exact ⟨i + 1, by omega, by go_num, HDJ.out⟩
            case measure => simp [intOf]; omega
      · obtain rfl : i = n := by omega
        have d0 : decide ((i : Int) < (i : Int)) = false := decide_eq_false (by omega)
        have hbr : Below w.heap.size w wr := by
          obtain ⟨d, rfl⟩ := hd
          exact below_drewN HB1.out d
        have HBR := Lib.hid hbr
        clear hd hbr
        go_wp2_with fail
        refine (HAW.out wr).mono ?_
        rintro e w5 ⟨rfl, hb5⟩
        have HB5 := Lib.hid (HBR.out.trans (hb5.mono HBR.out.size))
        clear hb5
        go_wp2_with fail
        go_ret
        exact ⟨rfl, HB5.out⟩
  · have hans : codesAns L = ([], 80) := by rw [codesAns, if_neg hok]
    rw [hans] at HC
    have HCK := Lib.hid fun (w1 : World) (h : ZIn w1 A n L) => R.check w1 A n c L h hnc hn
    rw [if_neg hok] at HCK
    have HZ := Lib.hid hz
    unfold maxLen at hn
    clear hz hans hok
    go_enter Try.func7, Try.ntmps7
    go_wp2_with fail
    refine HC.out.mono ?_
    intro e w1 h
    obtain ⟨A1, c1, rfl, hc1, hi1, hb1⟩ := list_slice h
    have HB1 := Lib.hid hb1
    have HCK1 := Lib.hid (HCK.out w1 (HZ.out.below hb1))
    dsimp only [List.length_nil] at hc1 ⊢
    clear h hi1 hb1 HCK HZ
    go_wp2_with fail
    refine HCK1.out.mono ?_
    rintro e w2 ⟨rfl, hb2⟩
    have HB2 := Lib.hid (HB1.out.trans (hb2.mono HB1.out.size))
    clear hb2
    go_wp2_with fail
    refine (HAW.out w2).mono ?_
    rintro e w5 ⟨rfl, hb5⟩
    have HB5 := Lib.hid (HB2.out.trans (hb5.mono HB2.out.size))
    clear hb5
    go_wp2_with fail
    go_ret
    exact ⟨rfl, HB5.out⟩
end

end Go.Proofs.Ytgnlpbnodijkgaa
