/- The reference of symbols, walked: rows. Conditions: at most a million bytes. -/
import Derived.Test.YtcmhcfbmjceioaaJf
import Derived.Lib.AppendZeros
namespace Go.Proofs.Ytcmhcfbmjceioaa
open Go.RowKit

/-- A block of n numbers. -/
def NRow (w : World) (g n : Nat) (f : Nat → Nat) : Prop := ∃ cs, Blk w g 3 cs ∧ cs.size = n ∧ ∀ i, i < n → cs[i]? = some (.int .i64 (f i))
theorem NRow.cell {w : World} {g n : Nat} {f : Nat → Nat} (h : NRow w g n f) {i : Nat} (hi : i < n) : w.cell? ⟨g, i, none⟩ = some (.int .i64 (f i : Nat)) := by
  obtain ⟨cs, hb, _, hc⟩ := h
  rw [blk_cell hb, hc i hi]
theorem NRow.frozen {w : World} {g n : Nat} {f : Nat → Nat} (h : NRow w g n f) (i : Nat) : w.frozen? ⟨g, i, none⟩ = false := by
  obtain ⟨cs, hb, _, hc⟩ := h
  exact blk_frozen hb i
theorem NRow.set {w : World} {g n : Nat} {f : Nat → Nat} (h : NRow w g n f) {i : Nat} (hi : i < n) (x : Nat) : NRow (w.setCell ⟨g, i, none⟩ (.int .i64 x)) g n fun j => if j = i then x else f j := by
  obtain ⟨cs, hb, hs, hc⟩ := h
  refine ⟨_, blk_set hb i (.int .i64 x), by rw [Array.size_setIfInBounds, hs], fun j hj => ?_⟩
  rw [Array.getElem?_setIfInBounds]
  by_cases e : i = j
  · subst e
    rw [if_pos rfl, if_pos (by omega)]
    simp
  · have e2 : ¬ j = i := fun h => e h.symm
    rw [if_neg e, hc j hj]
    simp [e2]
theorem NRow.apart {w : World} {g k n : Nat} {f : Nat → Nat} (h : NRow w g n f) (hne : g ≠ k) (i : Nat) (u : Value) : NRow (w.setCell ⟨k, i, none⟩ u) g n f := by
  obtain ⟨cs, hb, hs, hc⟩ := h
  refine ⟨cs, ?_, hs, hc⟩
  show (w.setCell ⟨k, i, none⟩ u).heap[g]? = _
  rw [Below.heap_setCell w ⟨k, i, none⟩ u g hne]
  exact hb
theorem NRow.same {w : World} {g n : Nat} {f f2 : Nat → Nat} (h : NRow w g n f) (e : ∀ i, i < n → f i = f2 i) : NRow w g n f2 := by
  obtain ⟨cs, hb, hs, hc⟩ := h
  exact ⟨cs, hb, hs, fun i hi => by rw [hc i hi, e i hi]⟩
theorem NRow.zeros (w : World) (n : Nat) : NRow (w.alloc (.cells (madeCells #[.int .i64 0] n) 3)) w.heap.size n fun _ => 0 := by
  refine ⟨_, blk_new w 3 _, by simp [madeCells], fun i hi => ?_⟩
  rw [← Array.getElem?_toList, toList_madeCells_one, List.getElem?_replicate, if_pos hi]
  rfl
theorem NRow.step {w w' : World} {g n : Nat} {f : Nat → Nat} {B : Nat} {ps : List Nat} {ts : List TypeId} (h : NRow w g n f) (hs : Step B ps ts w w') (hp : g ∉ ps) (ht : 3 ∉ ts) : NRow w' g n f := by
  obtain ⟨cs, hb, hz, hc⟩ := h
  exact ⟨cs, hs.blk hb hp ht, hz, hc⟩
theorem NRow.lt {w : World} {g n : Nat} {f : Nat → Nat} (h : NRow w g n f) : g < w.heap.size := by
  obtain ⟨cs, hb, _⟩ := h
  exact blk_lt hb
theorem NRow.ints {w : World} {g n : Nat} {f : Nat → Nat} (h : NRow w g n f) : IntsIn w (some ⟨g, 0, none⟩) n ((List.range n).map f) :=
  ⟨by rw [List.length_map, List.length_range], fun _ => ⟨g, 0, rfl, fun i hi => by
    rw [Nat.zero_add, h.cell hi, List.getD_eq_getElem?_getD, List.getElem?_map, List.getElem?_range hi]
    rfl⟩⟩
theorem nrow_past {w : World} {g n : Nat} {f : Nat → Nat} (h : NRow w g n f) (o : Obj) : NRow (w.alloc o) g n f := by
  obtain ⟨cs, hb, hz, hc⟩ := h
  refine ⟨cs, ?_, hz, hc⟩
  show (w.heap.push o)[g]? = _
  rw [Array.getElem?_push, if_neg (by have := blk_lt hb; omega)]
  exact hb

theorem bit_next (l : List UInt8) (q b : Nat) (hq : q < l.length) (hb : b < 256) : bitB (l.take (q + 1)) b = if b = (l.getD q 0).toNat then 1 else bitB (l.take q) b := by
  have e : l.getD q 0 = l[q] := by rw [List.getD_eq_getElem?_getD, List.getElem?_eq_getElem hq]; rfl
  unfold bitB
  rw [List.take_succ_eq_append_getElem hq, e]
  by_cases h : b = l[q].toNat
  · subst h
    rw [if_pos rfl, if_pos]
    rw [UInt8.ofNat_toNat]
    exact List.mem_append_right _ (List.mem_singleton.2 rfl)
  · rw [if_neg h]
    have hne : ¬ UInt8.ofNat b = l[q] := fun h2 => h (by rw [← h2, UInt8.toNat_ofNat', Nat.mod_eq_of_lt hb])
    simp only [List.mem_append, List.mem_singleton, hne, or_false]
theorem row_next (l : List UInt8) (q i : Nat) (hq : q < l.length) : rowB (l.take (q + 1)) i = if i = (l.getD q 0).toNat / 16 then 1 else rowB (l.take q) i := by
  have e : l.getD q 0 = l[q] := by rw [List.getD_eq_getElem?_getD, List.getElem?_eq_getElem hq]; rfl
  unfold rowB
  rw [List.take_succ_eq_append_getElem hq, e, List.any_append]
  by_cases h : i = l[q].toNat / 16
  · subst h
    rw [if_pos rfl, if_pos]
    simp
  · rw [if_neg h]
    have hne : (l[q].toNat / 16 == i) = false := by simpa using fun h2 => h h2.symm
    simp [hne]

set_option maxHeartbeats 1600000 in
set_option maxRecDepth 100000 in
theorem rows_any (w : World) (s : ByteArray) (hs : s.size ≤ 1000000) : Calls Try.prog 36 #[.string s] w fun e w' => ∃ g1 g2, e = .returned (.tuple #[.slice (some ⟨g1, 0, none⟩) 16 16, .slice (some ⟨g2, 0, none⟩) 256 256]) ∧ NRow w' g1 16 (rowB s.data.toList) ∧ NRow w' g2 256 (bitB s.data.toList) ∧ w.heap.size ≤ g1 ∧ w.heap.size ≤ g2 ∧ Below w.heap.size w w' := by
  obtain ⟨i3, h3, hz0, hz1, hz2⟩ := info_parts Try.info3
  have hmk1 : ∀ w1 : World, (Instr.makeSlice 25 (.int .i64 16) (.int .i64 16)).run Try.prog w1 = .ok (.slice (some ⟨w1.heap.size, 0, none⟩) 16 16) (w1.alloc (.cells (madeCells #[.int .i64 0] 16) 3)) := by
    intro w1
    have h := run_make (P := Try.prog) w1 25 3 i3 (.int .i64 0) Try.underlying25 h3 hz0 .i64 .i64 16 16 (by omega) (by omega) (by rw [hz2]; omega) (by omega)
    rw [hz1] at h
    exact h
  have hmk2 : ∀ w1 : World, (Instr.makeSlice 25 (.int .i64 256) (.int .i64 256)).run Try.prog w1 = .ok (.slice (some ⟨w1.heap.size, 0, none⟩) 256 256) (w1.alloc (.cells (madeCells #[.int .i64 0] 256) 3)) := by
    intro w1
    have h := run_make (P := Try.prog) w1 25 3 i3 (.int .i64 0) Try.underlying25 h3 hz0 .i64 .i64 256 256 (by omega) (by omega) (by rw [hz2]; omega) (by omega)
    rw [hz1] at h
    exact h
  have hm1 := hmk1 w
  have hm2 := hmk2 (w.alloc (.cells (madeCells #[.int .i64 0] 16) 3))
  have e0 : (w.alloc (.cells (madeCells #[.int .i64 0] 16) 3)).heap.size = w.heap.size + 1 := by simp
  have hr1 := nrow_past (NRow.zeros w 16) (.cells (madeCells #[.int .i64 0] 256) 3)
  have hr2 := NRow.zeros (w.alloc (.cells (madeCells #[.int .i64 0] 16) 3)) 256
  rw [e0] at hr2
  have HR1 := Lib.hid hr1
  have HR2 := Lib.hid hr2
  have HB := Lib.hid (((Below.refl _ w).alloc (Nat.le_refl _) (.cells (madeCells #[.int .i64 0] 16) 3)).alloc (by simp) (.cells (madeCells #[.int .i64 0] 256) 3))
  have HBN := Lib.hid (bit_next s.data.toList)
  have HRN := Lib.hid (row_next s.data.toList)
  have HSL := Lib.hid (show s.data.toList.length = s.size from rfl)
  clear hmk1 hmk2 hr1 hr2 h3 hz0 hz1 hz2 e0
  generalize madeCells #[.int .i64 0] 16 = c16 at *
  generalize madeCells #[.int .i64 0] 256 = c256 at *
  go_enter Try.func36, Try.ntmps36
  go_wp2_with fail
  go_loopw [6] (fun x wx => ∃ q : Nat, q ≤ s.size ∧ x = .int .i64 q ∧ NRow wx w.heap.size 16 (rowB (s.data.toList.take q)) ∧ NRow wx (w.heap.size + 1) 256 (bitB (s.data.toList.take q)) ∧ Below w.heap.size w wx) (fun x _ => s.size - (intOf x).toNat)
  case atStart =>
    refine ⟨0, Nat.zero_le _, rfl, HR1.out.same fun i _ => ?_, HR2.out.same fun i _ => ?_, HB.out⟩
    · simp [rowB]
    · simp [bitB]
  case round =>
    clear HR1 HR2 HB hm1 hm2
    obtain ⟨q, hq, rfl, h1, h2, hb⟩ := hrel
    have H1 := Lib.hid h1
    have H2 := Lib.hid h2
    have HB := Lib.hid hb
    by_cases e : q < s.size
    · have d1 : decide ((q : Int) < (s.size : Int)) = true := decide_eq_true (by omega)
      have hb256 := UInt8.toNat_lt s[q]
      have hby := getD_byte s q e
      have hbn := fun b => HBN.out q b (by rw [HSL.out]; exact e)
      have hrn := fun b => HRN.out q b (by rw [HSL.out]; exact e)
      obtain ⟨b, hbb⟩ : ∃ b, b = s[q].toNat := ⟨_, rfl⟩
      rw [hby, ← hbb] at hbn hrn
      rw [← hbb] at hb256
      have hsb : s[q].toNat = b := hbb.symm
      obtain ⟨h, hh⟩ : ∃ h, h = b / 16 := ⟨_, rfl⟩
      rw [← hh] at hrn
      have hh16 : h < 16 := by omega
      have hdv : (b : Int) / 16 = (h : Int) := by omega
      have hdt : Int.tdiv (b : Int) 16 = (h : Int) := by rw [Int.tdiv_eq_ediv_of_nonneg (by omega)]; exact hdv
      have hc2 := h2.cell hb256
      have hf2 := h2.frozen b
      have h1' := h1.apart (show w.heap.size ≠ w.heap.size + 1 by omega) b (.int .i64 1)
      have hc1 := h1'.cell hh16
      have hf1 := h1'.frozen h
      obtain ⟨v2, hv2⟩ : ∃ v, v = bitB (s.data.toList.take q) b := ⟨_, rfl⟩
      obtain ⟨v1, hv1⟩ : ∃ v, v = rowB (s.data.toList.take q) h := ⟨_, rfl⟩
      rw [← hv2] at hc2
      rw [← hv1] at hc1
      have HBN2 := Lib.hid hbn
      have HRN2 := Lib.hid hrn
      have H1' := Lib.hid h1'
      clear hbn hrn h1 h2 hb hby hbb hh hv1 hv2 h1'
      go_wp2_with fail
      go_roundw
      case rel =>
        refine ⟨q + 1, by omega, by go_num, (H1'.out.set hh16 1).same fun i _ => (HRN2.out i).symm, ((H2.out.set hb256 1).apart (by omega) _ _).same fun i hi => (HBN2.out i hi).symm, (HB.out.setCell (by show _ ≤ w.heap.size + 1; omega) _).setCell (by show _ ≤ w.heap.size; omega) _⟩
      case measure => simp [intOf]; omega
    · obtain rfl : q = s.size := by omega
      have d1 : decide ((s.size : Int) < (s.size : Int)) = false := decide_eq_false (by omega)
      have hT : s.data.toList.take s.size = s.data.toList := List.take_of_length_le (Nat.le_of_eq HSL.out)
      rw [hT] at h1 h2
      have H3 := Lib.hid h1
      have H4 := Lib.hid h2
      clear h1 h2 hb hT
      go_wp2_with fail
      go_ret2
      exact ⟨_, _, rfl, H3.out, H4.out, Nat.le_refl _, by omega, HB.out⟩

end Go.Proofs.Ytcmhcfbmjceioaa
