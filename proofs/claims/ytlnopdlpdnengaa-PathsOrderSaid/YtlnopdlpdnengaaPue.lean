/- paths.Parts. Conditions: texts of at most a million bytes. -/
import Derived.Test.YtlnopdlpdnengaaPud
import Derived.Laws.MakeOwn
namespace Go.Proofs.Ytlnopdlpdnengaa
open Go.RowKit

set_option maxRecDepth 100000 in
/-- A text behind a row of the call's own: where it lies, and what it leaves. -/
theorem text_at (w : World) (B g n c : Nat) (L : List (List UInt8)) (h : w.ownsRow B 9 1 (.slice (some ⟨g, 0, none⟩) n c) n (L.map sv)) (x : List UInt8) (hn : n ≤ 1000001) (hB : B ≤ w.heap.size) :
    ∃ g2 c2 w2, (Builtin.append_ #[32, 32] 32 #[.slice (some ⟨g, 0, none⟩) n c, .slice (some ⟨w.heap.size, 0, none⟩) 1 1]).run Try.prog (w.alloc (.cells #[.string (strP x)] 9)) = .ok (.slice (some ⟨g2, 0, none⟩) (n + 1) c2) w2 ∧
      w2.ownsRow B 9 1 (.slice (some ⟨g2, 0, none⟩) (n + 1) c2) (n + 1) ((L ++ [x]).map sv) ∧ Below B w w2 ∧ (g2 = g ∨ w.heap.size ≤ g2) ∧ ∀ k, k < w.heap.size → k ≠ g → w2.heap[k]? = w.heap[k]? := by
  obtain ⟨i3, h3, hz0, hz1, hz2⟩ := info_str
  obtain ⟨v2, w2, hr, ho, hg, _, hat⟩ := run_append_own_at (P := Try.prog) (w.alloc (.cells #[.string (strP x)] 9)) B 32 32 9 i3 (.string ⟨#[]⟩) 1 16 Try.underlying32 h3 hz0 hz1 hz2 rfl (by decide) _ _ _ (h.alloc _) ⟨w.heap.size, 0, none⟩ 1 1 [sv x] rfl (cell_alone w (sv x) 9)
    (fun u hu => by rw [List.mem_singleton.1 hu]; rfl) (by unfold maxLen; omega) (by omega) (by simp; omega)
  obtain ⟨A, c2, rfl, hc, hm, hA⟩ := own_slice ho
  obtain ⟨g2, rfl⟩ := hA (by omega)
  refine ⟨g2, c2, w2, hr, by rw [List.map_append]; exact ho, ?_, ?_, ?_⟩
  · refine ((Below.refl B w).alloc hB _).grown hg (by simp; omega) fun k hk => ?_
    have hlt := World.ownsRow.lt h g rfl
    have : g = k := by simpa [Value.ownBlock] using hk
    omega
  · simp [Value.ownBlock] at hat
    rcases hat with hat | hat
    · exact .inl hat
    · exact .inr (by omega)
  · intro k hk hne
    rw [hg.block k (by simp; omega) (by simp [Value.ownBlock]; exact hne), Below.heap_alloc w _ k hk]

theorem Tell.of_blocks {w w' : World} {g : Nat} {L : List (List UInt8)} (h : Tell w g L) (h0 : w'.heap[g]? = w.heap[g]?) (h1 : w'.heap[g + 1]? = w.heap[g + 1]?) : Tell w' g L := by
  obtain ⟨r, m, a, b, c⟩ := h
  exact ⟨r, m, h0.trans a, h1.trans b, c⟩

set_option maxHeartbeats 3200000 in
set_option maxRecDepth 100000 in
theorem cparts_any (w : World) (t : ByteArray) (hs : t.size ≤ 1000000) : Calls Try.prog 15 #[.string t] w (TextsPost w (partsL t.data.toList)) := by
  obtain ⟨i3, h3, hz0, hz1, hz2⟩ := info_str
  have hct : t.data.toList.count 47 ≤ t.size := List.count_le_length
  have HCT := Lib.hid (count_any w t)
  obtain ⟨k, hk⟩ : ∃ k, k = t.data.toList.count 47 := ⟨_, rfl⟩
  rw [← hk] at hct HCT
  obtain ⟨m1, hm1⟩ : ∃ m1, m1 = k + 1 := ⟨_, rfl⟩
  have hmz : (k : Int) + 1 = (m1 : Int) := by omega
  have hm1b : m1 ≤ 1000001 := by omega
  obtain ⟨w1, hw1⟩ : ∃ w1, w1 = w.alloc (.cells (madeCells #[.string ⟨#[]⟩] m1) 9) := ⟨_, rfl⟩
  have hmk : (Instr.makeSlice 32 (.int .i64 0) (.int .i64 m1)).run Try.prog w = .ok (.slice (some ⟨w.heap.size, 0, none⟩) 0 m1) w1 := by
    have h := run_make (P := Try.prog) w 32 9 i3 (.string ⟨#[]⟩) Try.underlying32 h3 hz0 .i64 .i64 (0 : Int) (m1 : Int) (by omega) (by omega) (by rw [hz2]; omega) (by omega)
    rw [hz1, Int.toNat_natCast, Nat.mul_one] at h
    rw [hw1]
    exact h
  have ho1 : w1.ownsRow w.heap.size 9 1 (.slice (some ⟨w.heap.size, 0, none⟩) 0 m1) 0 (([] : List (List UInt8)).map sv) := by
    rw [hw1]
    exact World.ownsRow_made w (madeCells #[.string ⟨#[]⟩] m1) m1 (Nat.le_refl _) (by unfold maxLen; omega) (by simp [madeCells])
  have hb1 : Below w.heap.size w w1 := by rw [hw1]; exact (Below.refl _ _).alloc (Nat.le_refl _) _
  have hz1 : w1.heap.size = w.heap.size + 1 := by rw [hw1]; simp
  have HT := Lib.hid (teller_any w1 t (by omega))
  have HO1 := Lib.hid ho1
  have HB1 := Lib.hid hb1
  obtain ⟨g, hg⟩ : ∃ g, g = w1.heap.size := ⟨_, rfl⟩
  rw [← hg] at HT hz1
  have HG := Lib.hid hg
  have HGZ := Lib.hid hz1
  have hlen := partsF_len t.data.toList []
  have hll : t.data.toList.length = t.size := rfl
  have HP : Hid (∀ (A : Option Addr) (n c : Nat) (L : List (List UInt8)) (w' : World), L = partsL t.data.toList → n ≤ c → c ≤ maxLen → SLn w' A n L → Below w.heap.size w w' → TextsPost w (partsL t.data.toList) (.returned (.slice A n c)) w') := Lib.hid fun A n c L w' hL h1 h2 h3 h4 => ⟨A, n, c, rfl, h1, h2, hL ▸ h3, h4⟩
  have HLN : Hid ((partsL t.data.toList).length ≤ 1000001) := Lib.hid (by unfold partsL; omega)
  generalize TextsPost w (partsL t.data.toList) = PO at *
  generalize partsL t.data.toList = L0 at *
  clear hw1 ho1 hb1 hg hz1 hlen hll hm1 h3 hz0 hz2 hk hct
  go_enter Try.func15, Try.ntmps15
  go_wp2_with fail
  refine HCT.out.mono ?_
  rintro e w ⟨rfl, rfl⟩
  go_wp2_with fail
  refine HT.out.mono ?_
  rintro e w2 ⟨rfl, ht2, hz2, hb2⟩
  have HZ2 := Lib.hid hz2
  have HB2 := Lib.hid hb2
  have HN := Lib.hid (next_any w2 g _ ht2)
  clear ht2 hz2 hb2 hmk
  go_wp2_with fail
  refine HN.out.mono ?_
  rintro e w3 ⟨rfl, ht3, hs3⟩
  have HB3 : Hid (Below w.heap.size w w3) := Lib.hid ((HB1.out.trans (HB2.out.mono (by rw [HGZ.out]; omega))).trans (hs3.below.mono (by rw [HGZ.out]; omega)))
  have HI : Hid (w3.ownsRow w.heap.size 9 1 (.slice (some ⟨w.heap.size, 0, none⟩) 0 m1) 0 (([] : List (List UInt8)).map sv) ∧ w.heap.size ≠ g ∧ w.heap.size ≠ g + 1 ∧ Tell w3 g L0.tail ∧ ([] : List (List UInt8)).length = 0 ∧ ([] : List (List UInt8)) ++ L0 = L0) := Lib.hid ⟨by
    have hb2 := HB2.out
    rw [HG.out] at hb2
    refine hs3.row ((step_of_below hb2).row HO1.out (fun _ _ => List.not_mem_nil) List.not_mem_nil) ?_ List.not_mem_nil
    intro k hk
    have : w.heap.size = k := by simpa [Value.ownBlock] using hk
    rw [List.mem_cons, List.mem_singleton, HGZ.out]
    omega, by rw [HGZ.out]; omega, by rw [HGZ.out]; omega, ht3, rfl, rfl⟩
  clear ht3 hs3 HN HB2 HB1 HO1
  obtain ⟨r0, hr0⟩ : ∃ r0, r0 = w.heap.size := ⟨_, rfl⟩
  go_wp2_with fail
  go_loopw [3, 5, 6] (fun so sp si wx => ∃ (D L : List (List UInt8)) (r n c : Nat), so = .slice (some ⟨r, 0, none⟩) n c ∧ sp = .string (strP (hdL L)) ∧ si = .bool (anyL L) ∧ Below w.heap.size w wx ∧
    Hid (wx.ownsRow w.heap.size 9 1 (.slice (some ⟨r, 0, none⟩) n c) n (D.map sv) ∧ r ≠ g ∧ r ≠ g + 1 ∧ Tell wx g L.tail ∧ D.length = n ∧ D ++ L = L0)) (fun _ _ si wx => oneIf si + leftOf wx g)
  case atStart => exact ⟨[], L0, w.heap.size, 0, m1, rfl, rfl, rfl, HB3.out, HI⟩
  case round =>
    obtain ⟨D, L, r, n, c, rfl, hp, hi, hbx, hJ⟩ := hrel
    have HBX := Lib.hid hbx
    clear hbx
    rcases L with _ | ⟨p, L⟩
    · change _ = Value.string (strP []) at hp
      change _ = Value.bool false at hi
      subst hp hi
      have hown := hJ.out.1
      have hDL := hJ.out.2.2.2.2.2
      rw [List.append_nil] at hDL
      obtain ⟨_, _, hv, hc1, hc2, _⟩ := own_slice hown
      have hcc : n ≤ c ∧ c ≤ maxLen := by
        cases hv
        exact ⟨hc1, hc2⟩
      have HF := Lib.hid (HP.out _ n c _ wr hDL hcc.1 hcc.2 (sln_of_own hown) HBX.out)
      clear hJ hown hv hc1 hc2 hcc hDL
      go_wp2_with fail
      exact HF.out
    · change _ = Value.string (strP p) at hp
      change _ = Value.bool true at hi
      subst hp hi
      obtain ⟨hown, hrg, hrg1, ht, hDn, hDL⟩ := hJ.out
      have HLEFT := Lib.hid (left_is (L := L) ht)
      have hlt := Tell.lt ht
      have hn : n ≤ 1000001 := by
        have := HLN.out
        rw [← hDL, List.length_append] at this
        omega
      obtain ⟨g2, c2, w4, hr2, ho2, hb2, hg2, hk2⟩ := text_at wr w.heap.size r n c D hown p hn HBX.out.size
      have ht4 : Tell w4 g L := Tell.of_blocks (L := L) ht (hk2 g (by omega) (fun e => hrg e.symm)) (hk2 (g + 1) hlt (fun e => hrg1 e.symm))
      have HN := Lib.hid (next_any w4 g L ht4)
      have HR2 : Hid ((Builtin.append_ #[32, 32] 32 #[.slice (some ⟨r, 0, none⟩) n c, .slice (some ⟨wr.heap.size, 0, none⟩) 1 1]).run Try.prog (wr.alloc (.cells #[.string (strP p)] 9)) = .ok (.slice (some ⟨g2, 0, none⟩) (n + 1) c2) w4) := Lib.hid hr2
      have HO4 := Lib.hid ho2
      have HB4 := Lib.hid (HBX.out.trans hb2)
      obtain ⟨n1, hn1⟩ : ∃ n1, n1 = n + 1 := ⟨_, rfl⟩
      rw [← hn1] at HR2 HO4
      have HD1 : Hid ((D ++ [p]).length = n1) := Lib.hid (by rw [List.length_append, List.length_singleton, hDn, hn1])
      have HDL1 : Hid ((D ++ [p]) ++ L = L0) := Lib.hid (by rw [← hDL, List.append_assoc]; rfl)
      have HGG : Hid (g2 ≠ g ∧ g2 ≠ g + 1) := Lib.hid (by
        rcases hg2 with rfl | hg2
        · exact ⟨hrg, hrg1⟩
        · exact ⟨by omega, by omega⟩)
      clear hJ hown hrg hrg1 ht hDn hDL hr2 ho2 hb2 hg2 hk2 ht4 hlt hn1 hn
      go_wp2_with (at_builtin; refine Lib.wpList_append_run _ rfl (.tmp 24) (.tmp 26) 32 32 rfl (.slice (some ⟨r, 0, none⟩) n c) (.slice (some ⟨wr.heap.size, 0, none⟩) 1 1) rfl rfl (.slice (some ⟨g2, 0, none⟩) n1 c2) w4 HR2.out ?_)
      refine HN.out.mono ?_
      rintro e w5 ⟨rfl, ht5, hs5⟩
      have HB5 : Hid (Below w.heap.size w w5) := Lib.hid (HB4.out.trans (hs5.below.mono (by rw [HGZ.out]; omega)))
      have HL5 := Lib.hid (left_is ht5)
      have HO5 : Hid (w5.ownsRow w.heap.size 9 1 (.slice (some ⟨g2, 0, none⟩) n1 c2) n1 ((D ++ [p]).map sv)) := Lib.hid (by
        refine hs5.row HO4.out ?_ List.not_mem_nil
        intro k hk
        have : g2 = k := by simpa [Value.ownBlock] using hk
        subst this
        rw [List.mem_cons, List.mem_singleton]
        exact fun h => h.elim HGG.out.1 HGG.out.2)
      have HJ5 := Lib.hid (show _ ∧ g2 ≠ g ∧ g2 ≠ g + 1 ∧ Tell w5 g L.tail ∧ (D ++ [p]).length = n1 ∧ (D ++ [p]) ++ L = L0 from ⟨HO5.out, HGG.out.1, HGG.out.2, ht5, HD1.out, HDL1.out⟩)
      clear ht5 hs5 HN
      go_wp2_with fail
      go_roundw
      case rel => exact ⟨D ++ [p], L, g2, n1, c2, rfl, rfl, rfl, HB5.out, HJ5⟩
      case measure =>
        have := any_left L
        rw [HLEFT.out, HL5.out]
        show _ < 1 + L.length
        omega
end Go.Proofs.Ytlnopdlpdnengaa
