/- The law BitsWrites, for every list of numbers and widths: what is put stands as the document's bits. No conditions. -/
import Derived.Test.YtelgmihemnidkaaQ
import Derived.Deep.RegionHeld3
import Derived.Deep.DeepCutAuto
namespace Go.Proofs.Ytelgmihemnidkaa
open Go.RowKit

theorem writes_walk (w : World) (A : Option Addr) (n c : Nat) (V : Nat → Nat) (N : Nat → Int) (hp : PairsIn w w.heap.size A n (fun i => .int .u64 (V i)) (fun i => .int .i64 (N i))) (hV : ∀ i, i < n → V i < 2 ^ 64) (hN : ∀ i, i < n → -9223372036854775808 ≤ N i ∧ N i ≤ 9223372036854775807) (hn : n ≤ 300) :
    Calls Try.prog 3 #[.slice A n c] w fun e w' => e = .returned (.bool true) ∧ Below w.heap.size w w' := by
  obtain ⟨i3, hi, hz0, hz1, hz2⟩ := info_parts Try.info3
  go_enter Try.func3, Try.ntmps3
  go_wp2_with fail
  refine (newW w).mono ?_
  rintro e w1 ⟨rfl, hw1⟩
  have hW1 : IsW w.heap.size w1 w.heap.size (.slice none 0 0) [] := by rw [hw1]; exact isW_new w _ (Nat.le_refl _)
  have hb1 : Below w.heap.size w w1 := by rw [hw1]; exact (Below.refl _ _).alloc (Nat.le_refl _) _
  have HW1 := Lib.hid hw1
  clear hw1
  go_wp2_with fail
  go_loopw [4, 5] (fun va i wr => ∃ (j : Nat) (v : Value) (L : List Nat), j ≤ n ∧ i = .int .i64 j ∧ IsW w.heap.size wr w.heap.size v L ∧ wr.ownsRow w.heap.size 3 1 va L.length (L.map iv) ∧ L.length ≤ 64 * j ∧ Below w.heap.size w wr) (fun _ i _ => n - (intOf i).toNat)
  case atStart => exact ⟨0, _, [], Nat.zero_le _, rfl, hW1, World.ownsRow_nil _ _ _ _, by simp, hb1⟩
  case round =>
    obtain ⟨j, v, L, hj, rfl, hW, hown, hlen, hb⟩ := hrel
    obtain ⟨Aa, ca, hva, hca, hcm, hAa⟩ := own_slice hown
    rw [hva] at hown ⊢
    have HVA := Lib.hid hva
    clear hva
    by_cases h : j < n
    · obtain ⟨b, off, rfl, hbB, hc⟩ := hp (by omega)
      have g1 : wr.cell? ⟨b, off + j * 2, none⟩ = some (.int .u64 (V j)) := (hb.cell (p := ⟨b, off + j * 2, none⟩) hbB).trans (hc j h).1
      have g2 : wr.cell? ⟨b, off + j * 2 + 1, none⟩ = some (.int .i64 (N j)) := (hb.cell (p := ⟨b, off + j * 2 + 1, none⟩) hbB).trans (hc j h).2
      have HV := hV j h
      have HN := hN j h
      clear hc
      have hwd := hW.drew
      have hbd := hb.drew
      have hod : wr.drew.ownsRow _ _ _ _ _ _ := hown
      have g1d : wr.drew.cell? ⟨b, off + j * 2, none⟩ = some (.int .u64 (V j)) := g1
      have g2d : wr.drew.cell? ⟨b, off + j * 2 + 1, none⟩ = some (.int .i64 (N j)) := g2
      by_cases hbad : BadPut (V j) (N j)
      · go_upto_region 10 with fail
        go_region_held3 (fun w' => w'.cell? ⟨b, off + j * 2, none⟩ = some (.int .u64 (V j)) ∧ w'.cell? ⟨b, off + j * 2 + 1, none⟩ = some (.int .i64 (N j))) (first | exact ⟨g1, g2⟩ | exact ⟨(hb2.cell (p := ⟨b, off + j * 2, none⟩) (by have := hb.size; simp; omega)).trans g1, (hb2.cell (p := ⟨b, off + j * 2 + 1, none⟩) (by have := hb.size; simp; omega)).trans g2⟩ | go_keep)
          (first | (go_at_call 12; refine (rbits_bad _ _ _ HV hbad).mono ?_; rintro e w2 ⟨A2, n2, c2, rfl, hb2⟩))
        have hz1' := hbd.size
        have hs2 := step_of_below hb2
        have hW2 := hwd.step hs2 (by simp) (by simp) (by simp) (by simp)
        have ho2 := hs2.row hod (by simp) (by simp)
        have hbl2 : Below w.heap.size w w2 := hbd.trans (hb2.mono hz1')
        have e1 := (hb2.cell (p := ⟨b, off + j * 2, none⟩) (by show b < _; omega)).trans g1d
        have e2 := (hb2.cell (p := ⟨b, off + j * 2 + 1, none⟩) (by show b < _; omega)).trans g2d
        have c0 := blk_cell hW2.blk 0
        simp at c0
        go_upto_region 11 with fail
        go_region_held3 (fun w' => w'.cell? ⟨b, off + j * 2, none⟩ = some (.int .u64 (V j)) ∧ w'.cell? ⟨b, off + j * 2 + 1, none⟩ = some (.int .i64 (N j))) (first | exact ⟨e1, e2⟩ | go_keep)
          (first | (go_at_call 13; refine (put_bad _ _ (by first | exact c0 | (simp; exact c0)) _ _ hbad).mono ?_; rintro e w' ⟨rfl, rfl⟩))
        have hW3 := hW2.drew
        go_wp2_with (go_at_call 14; refine (lenW hW3).mono ?_; rintro e w' ⟨rfl, rfl⟩)
        go_roundw
        case rel => exact ⟨j + 1, v, L, h, by go_num, hW3, ho2, by omega, hbl2.drew⟩
        case measure => simp [intOf]; omega
      · obtain ⟨k, hk, hk64, hx⟩ := good_put hbad
        clear hbad
        rw [hk] at g2 g2d
        have HK := Lib.hid hk
        clear hk HN HV
        have hz1' := hbd.size
        go_upto_region 10 with fail
        go_region_held3 (fun w' => w'.cell? ⟨b, off + j * 2, none⟩ = some (.int .u64 (V j)) ∧ w'.cell? ⟨b, off + j * 2 + 1, none⟩ = some (.int .i64 k)) (first | exact ⟨g1, g2⟩ | exact ⟨(hb2.cell (p := ⟨b, off + j * 2, none⟩) (by have := hb.size; simp; omega)).trans g1, (hb2.cell (p := ⟨b, off + j * 2 + 1, none⟩) (by have := hb.size; simp; omega)).trans g2⟩ | go_keep)
          (first | (go_at_call 12; refine (rbits_good _ _ _ hk64 hx).mono ?_; rintro e w2 ⟨gb, cb, rfl, hob, hb2⟩))
        have hs2 := step_of_below hb2
        have hW2 := (hwd.step hs2 (by simp) (by simp) (by simp) (by simp)).drew
        have ho2 : w2.drew.ownsRow _ _ _ _ _ _ := hs2.row hod (by simp) (by simp)
        have hob2 : w2.drew.ownsRow _ _ _ _ _ _ := hob
        have hbl2 : Below w.heap.size w w2.drew := (hbd.trans (hb2.mono hz1')).drew
        have e1 := (hb2.cell (p := ⟨b, off + j * 2, none⟩) (by show b < _; omega)).trans g1d
        have e2 := (hb2.cell (p := ⟨b, off + j * 2 + 1, none⟩) (by show b < _; omega)).trans g2d
        go_upto_region 11 with fail
        go_region_held3 (fun w' => w'.cell? ⟨b, off + j * 2, none⟩ = some (.int .u64 (V j)) ∧ w'.cell? ⟨b, off + j * 2 + 1, none⟩ = some (.int .i64 k)) (first | exact ⟨e1, e2⟩ | exact ⟨(hS3.below.cell (p := ⟨b, off + j * 2, none⟩) hbB).trans e1, (hS3.below.cell (p := ⟨b, off + j * 2 + 1, none⟩) hbB).trans e2⟩ | (go_keep))
          (first | (go_at_call 13; refine (put_ok _ _ _ _ _ _ _ hW2 (by omega) hk64 hx).mono ?_; rintro e w3 ⟨rfl, v3, hW3, hS3⟩))
        have ho3 := hS3.row ho2 (fun g hg => by simpa using row_ne ho2 hW2.blk (by decide) g hg) (by decide)
        have hob3 := hS3.row hob2 (fun g hg => by simpa using row_ne hob2 hW2.blk (by decide) g hg) (by decide)
        have hbl3 := hbl2.trans hS3.below
        have hz3 := hbl3.size
        have hcells := hob3.cells (g := gb) rfl
        go_upto_region 16 with (at_builtin; refine wpList_append_own _ rfl _ _ 26 rfl w.heap.size 3 i3 (.int .i64 0) 1 8 Try.underlying26 hi hz0 hz1 hz2 rfl (by decide) _ _ _ rfl ho3 ⟨gb, 0, none⟩ k cb ((bitsN (V j) k).map iv) rfl ?c0 hcells ?c2 ?c3 ?c4 hz3 ?_)
        case c0 => rw [List.length_map, bitsN_length, Nat.mul_one]
        case c2 => intro u hu; obtain ⟨q, _, rfl⟩ := List.mem_map.1 hu; rfl
        case c3 => unfold maxLen; omega
        case c4 => omega
        intro v4 w4 hown4 hgrow4 _
        have hs4 : Step w.heap.size [] [3] w3 w4 := (Step.refl _ _ _ _).grown hgrow4 hz3 (row_blk ho3)
        obtain ⟨L', hL'⟩ : ∃ L', L' = L ++ bitsN (V j) k := ⟨_, rfl⟩
        have hown5 : w4.ownsRow w.heap.size 3 1 v4 L'.length (L'.map iv) := by
          rw [hL', List.length_append, bitsN_length, List.map_append]; exact hown4
        have hW4 := hW3.step hs4 (by simp) (by simp) (by decide) (by decide)
        rw [← hL'] at hW4
        have hlen' : L'.length ≤ 64 * (j + 1) := by rw [hL', List.length_append, bitsN_length]; omega
        have hbl4 := hbl3.trans hs4.below
        obtain ⟨A4, c4, hv4, _, _, _⟩ := own_slice hown5
        rw [hv4] at hown5 ⊢
        have HL' := Lib.hid hL'
        have HV4 := Lib.hid hv4
        clear hL' hv4 hown4 hgrow4
        go_wp2_with (go_at_call 14; refine (lenW hW4).mono ?_; rintro e w' ⟨rfl, rfl⟩)
        go_roundw
        case rel => exact ⟨j + 1, v3, L', h, by go_num, hW4, hown5, hlen', hbl4⟩
        case measure => simp [intOf]; omega
    · have hI := ints_of_own hown
      have hsz := hb.size
      have HI := Lib.hid hI
      clear hI
      go_wp2_with fail
      refine (wtext_yes _ _ _ _ _ hW).mono ?_
      rintro e w' ⟨rfl, rfl⟩
      go_wp2_with fail
      refine (text_any _ _ _ _ L HI.out hW.bit (by omega)).mono ?_
      rintro e w5 ⟨rfl, hb5⟩
      go_wp2_with (go_at_call 10; refine (awake_any _).mono ?_; rintro e w' ⟨rfl, hbw⟩)
      go_ret
      have hz5 := hb5.size
      exact ⟨rfl, (hb.trans (hb5.mono hsz)).trans (hbw.mono (by omega))⟩

theorem writes_big (w : World) (A : Option Addr) (n c : Nat) (hn : 300 < n) (_hm : n ≤ maxLen) :
    Calls Try.prog 3 #[.slice A n c] w fun e w' => e = .returned (.bool true) ∧ Below w.heap.size w w' := by
  go_enter Try.func3, Try.ntmps3
  go_wp2_with (go_at_call 10; refine (awake_any _).mono ?_; rintro e w' ⟨rfl, hbw⟩)
  go_ret
  exact ⟨rfl, hbw⟩

end Go.Proofs.Ytelgmihemnidkaa
namespace Go.Proofs.Ytelgmihemnidkaa.BitsWrites
open Go.ChangeShapes Go.WideShapes Go.ChangeAt Go.RowKit

set_option maxRecDepth 100000 in
theorem lifted (os : Os) (started : os.Started) (H : Type) (enc : TypeId × Value → H) :
    ReturnsInHanded {} Try.checked os 3 .any (Rows.bitsWritesSpec.pre6 enc Try.prog Try.f3 Rows.bitsWritesRow.domain false) (Rows.bitsWritesSpec.post enc Try.prog Try.f3 false true false false) := by
  refine returnsInHanded_of_change (C := Try.checked) own started (by kernel_rfl) Try.func3
    (ChangeSpec.witness6 (enc := enc) (C := Try.checked) false ⟨#[], #[.slice none 0 0], []⟩ 8 (by kernel_rfl) (by kernel_rfl) (by kernel_rfl) (by kernel_rfl)) ?_
  intro W base args ds gs before hval0 hW hcnd _
  have hval : ∀ (j : Nat) t v, Try.f3.params[j]? = some t → args[j]? = some v → Value.okWide Try.prog W .any base t v := hval0
  have hW' := hW
  obtain ⟨p, q, hA0, hV, rfl, hfz, hnd⟩ := hW
  have hA : DataW.TrodAll enc Try.prog W 0 (fun _ => true) true Try.f3.params.toList args.toList ds p := hA0
  rw [Try.params3] at hA hval
  obtain ⟨v0, vs0, d0, ds0, p0, q0, hargs, rfl, rfl, h0, r0⟩ := trodAll_cons hA
  obtain ⟨rfl, rfl, rfl⟩ := trodAll_nil r0
  obtain rfl : args = #[v0] := by cases args; simp_all
  obtain ⟨rfl, rfl⟩ := trodVars_none hV
  obtain ⟨A, n, c, rfl⟩ := okWide_slice Try.underlying22 (hval 0 22 v0 rfl rfl)
  obtain ⟨V, N, hnc, hm, hp, hV', hN'⟩ := open_puts h0
  clear hA0 hval0
  have fin : ∀ e W', (e = Ending.returned (.bool true) ∧ Below W.heap.size W W') → ∃ v, e = Ending.returned v ∧ Rows.bitsWritesSpec.post enc Try.prog Try.f3 false true false false W #[.slice A n c] v W' := by
    rintro e W' ⟨rfl, hb⟩
    exact ⟨_, rfl, law_done hW' rfl hb (by kernel_rfl) (by kernel_rfl) rfl⟩
  by_cases hn : n ≤ 300
  · exact (writes_walk W A n c V N hp hV' hN' hn).mono fin
  · exact (writes_big W A n c (by omega) hm).mono fin

theorem over : Rows.bitsWritesRow.holds Try.pinned (OpenSpec.ofChange Rows.bitsWritesSpec) :=
  OpenClaim.holds_of_wide 3 Try.f3 rfl rfl rfl rfl rfl rfl rfl ⟨rfl, rfl, rfl, rfl, rfl⟩ rfl rfl rfl rfl rfl (by kernel_rfl) Try.func3 (by kernel_rfl)
    (of_decide_eq_true (by kernel_rfl)) (by unfold Func.isWrapper; first | (rw [if_pos (by decide +kernel)]; kernel_rfl) | (rw [if_neg (by decide +kernel)]; exact ⟨rfl, rfl⟩))
    (fun os started H enc _ => lifted os started H enc)

end Go.Proofs.Ytelgmihemnidkaa.BitsWrites
namespace Go.Proofs.Ytelgmihemnidkaa
/-- The given statement. -/
theorem bitsWrites_holds : Rows.BitsWritesSaid := BitsWrites.over
#print axioms bitsWrites_holds
end Go.Proofs.Ytelgmihemnidkaa
