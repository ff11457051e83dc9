/- Out of a last column: where each byte's first place is: starts. Conditions: at most a million bytes. -/
import Derived.Test.YtglcideecelemaaBa
import Derived.Test.YtglcideecelemaaAw
import Derived.Test.YtglcideecelemaaI
import Derived.Deep.LoopGhost
namespace Go.Proofs.Ytglcideecelemaa
open Go.RowKit

/-- An array of 256 numbers. -/
def arrF (f : Nat → Nat) : Array Value := (Array.range 256).map fun i => .int .i64 (f i)
theorem arrF_size (f : Nat → Nat) : (arrF f).size = 256 := by simp [arrF]
theorem arrF_zero : arrF (fun _ => 0) = Array.replicate 256 (.int .i64 0) := by
  apply Array.ext
  · simp [arrF]
  · intro i h1 h2
    simp [arrF]
theorem zeroArr : (∀ w, (zeroValue 62).run Try.prog w = .ok (.agg (arrF fun _ => 0)) w) ∧ (Try.prog.info? 62).map (·.size) = some 256 := by
  rw [arrF_zero]
  exact zero_of_info (by kernel_rfl)
theorem arrF_set (f : Nat → Nat) (b x : Nat) : (arrF f).setIfInBounds b (.int .i64 x) = arrF fun i => if i = b then x else f i := by
  apply Array.ext
  · simp [arrF]
  · intro i h1 h2
    rw [Array.getElem_setIfInBounds (by simpa [arrF] using h2)]
    by_cases e : b = i
    · subst e
      simp [arrF]
    · rw [if_neg e]
      have e2 : ¬ i = b := fun h => e h.symm
      simp [arrF, e2]
theorem arrF_one (f : Nat → Nat) : (arrF f).all (·.oneCell') = true := by
  rw [Array.all_eq_true]
  intro i h
  simp [arrF, Value.oneCell']
theorem arrF_get (f : Nat → Nat) (i : Nat) (h : i < 256) : (arrF f)[i]? = some (.int .i64 (f i : Nat)) := by
  simp [arrF, h]
theorem arrF_same (f g : Nat → Nat) (h : ∀ i, i < 256 → f i = g i) : arrF f = arrF g := by
  apply Array.ext
  · simp [arrF]
  · intro i h1 h2
    have hi : i < 256 := by rw [arrF_size] at h1; exact h1
    simp [arrF, h i hi]

theorem cnt_next (s : List UInt8) (i b : Nat) (h : i < s.length) : cntL (s.take (i + 1)) b = if b = (s.getD i 0).toNat then cntL (s.take i) (s.getD i 0).toNat + 1 else cntL (s.take i) b := by
  have e : s.getD i 0 = s[i] := by rw [List.getD_eq_getElem?_getD, List.getElem?_eq_getElem h]; rfl
  rw [List.take_succ_eq_append_getElem h, cntL, List.countP_append, List.countP_singleton, e]
  by_cases hb : b = s[i].toNat
  · subst hb
    rw [if_pos rfl]
    simp [cntL]
  · rw [if_neg hb]
    have : (s[i].toNat == b) = false := by
      simp only [beq_eq_false_iff_ne, ne_eq]
      exact fun h => hb h.symm
    simp [cntL, this]
theorem cnt_le (s : List UInt8) (i b : Nat) : cntL (s.take i) b ≤ s.length := by
  have := List.countP_le_length (p := fun x : UInt8 => x.toNat == b) (l := s.take i)
  rw [List.length_take] at this
  unfold cntL
  omega
theorem first_le (s : List UInt8) (b : Nat) (hb : b ≤ 256) : firstL s b ≤ s.length := by
  rw [← flat_length, ← places_length s]
  have e : List.range 256 = List.range b ++ (List.range (256 - b)).map (b + ·) := by
    conv => lhs; rw [show 256 = b + (256 - b) by omega, List.range_add]
  unfold placesL
  rw [e, List.flatMap_append, List.length_append]
  omega
theorem getD_byte (s : ByteArray) (i : Nat) (h : i < s.size) : s.data.toList.getD i 0 = s[i] := by
  rw [List.getD_eq_getElem?_getD, List.getElem?_eq_getElem (by simpa using h)]
  rfl

theorem three_new (w : World) (a b c : Array Value) (t : TypeId) : Blk (((w.alloc (.cells a t)).alloc (.cells b t)).alloc (.cells c t)) w.heap.size t a ∧ Blk (((w.alloc (.cells a t)).alloc (.cells b t)).alloc (.cells c t)) (w.heap.size + 1) t b ∧ Blk (((w.alloc (.cells a t)).alloc (.cells b t)).alloc (.cells c t)) (w.heap.size + 1 + 1) t c := by
  have e1 : (w.alloc (.cells a t)).heap.size = w.heap.size + 1 := by simp
  have e2 : ((w.alloc (.cells a t)).alloc (.cells b t)).heap.size = w.heap.size + 1 + 1 := by simp
  refine ⟨?_, ?_, ?_⟩
  · show (World.alloc _ _).heap[_]? = _
    rw [heap_alloc_past _ _ _ (by simp; omega), heap_alloc_past _ _ _ (by simp)]
    exact blk_new w t a
  · show (World.alloc _ _).heap[_]? = _
    rw [heap_alloc_past _ _ _ (by simp), ← e1]
    exact blk_new _ t b
  · rw [← e2]
    exact blk_new _ t c
theorem blk_apart {w : World} {g k : Nat} {t : TypeId} {cs : Array Value} (h : Blk w g t cs) (hne : g ≠ k) (i : Nat) (u : Value) : Blk (w.setCell ⟨k, i, none⟩ u) g t cs := by
  show (w.setCell ⟨k, i, none⟩ u).heap[g]? = _
  rw [Below.heap_setCell w ⟨k, i, none⟩ u g hne]
  exact h

theorem run_index_arr (w : World) (cs : Array Value) (q c : Nat) (h : q < 256) (hc : cs[q]? = some (.int .i64 c)) : (Instr.index 62 (.agg cs) (.int .i64 q)).run Try.prog w = .ok (.int .i64 c) w := by
  obtain ⟨i3, h3, hz0, hz1, hz2⟩ := info_parts Try.info3
  have h1 : (0 : Int) ≤ (q : Int) := by omega
  have h4 : ¬ 256 ≤ q := by omega
  unfold Instr.index
  simp [run_underlying Try.underlying62, go_sem, h1, sizeOf, typeInfo, h3, hz1, part, hc, h4]

set_option maxHeartbeats 1600000 in
set_option maxRecDepth 1000000 in
theorem starts_any (w : World) (s : ByteArray) (hs : s.size ≤ 1000000) : Calls Try.prog 34 #[.string s] w fun e w' => e = .returned (.agg (arrF (firstL s.data.toList))) ∧ Below w.heap.size w w' := by
  obtain ⟨hz, hi⟩ := zeroArr
  have HI := Lib.hid hi
  have HS := Lib.hid arrF_size
  have HSET := Lib.hid arrF_set
  have HO := Lib.hid arrF_one
  have HG := Lib.hid arrF_get
  have HSAME := Lib.hid arrF_same
  have hsl : s.data.toList.length = s.size := rfl
  have HSL := Lib.hid hsl
  have HF0 := Lib.hid (show (fun b => cntL (s.data.toList.take 0) b) = fun _ => 0 from by funext b; simp [cntL])
  generalize arrF = T at *
  clear hi hsl
  have HCL := Lib.hid (cnt_le s.data.toList)
  have HCN := Lib.hid (cnt_next s.data.toList)
  go_enter Try.func34, Try.ntmps34
  go_wp2
  go_loopw [11] (fun i wx => ∃ q : Nat, q ≤ s.size ∧ i = .int .i64 q ∧ Blk wx w.heap.size 62 (T fun _ => 0) ∧ Blk wx (w.heap.size + 1) 62 (T fun b => cntL (s.data.toList.take q) b) ∧ Blk wx (w.heap.size + 1 + 1) 62 (T fun _ => 0) ∧ Below w.heap.size w wx) (fun i _ => s.size - (intOf i).toNat)
  case atStart =>
    obtain ⟨h1, h2, h3⟩ := three_new w (T fun _ => 0) (T fun _ => 0) (T fun _ => 0) 62
    exact ⟨0, Nat.zero_le _, rfl, h1, by rw [HF0.out]; exact h2, h3, (((Below.refl _ w).alloc (Nat.le_refl _) _).alloc (by simp) _).alloc (by simp; omega) _⟩
  case round =>
    obtain ⟨q, hq, rfl, hb0, hb1, hb2, hb⟩ := hrel
    have H0 := Lib.hid hb0
    have H1 := Lib.hid hb1
    have H2 := Lib.hid hb2
    have HB := Lib.hid hb
    have hz9 := hb.size
    by_cases e : q < s.size
    · have hb256 := UInt8.toNat_lt s[q]
      have hby := getD_byte s q e
      obtain ⟨b, hbb⟩ : ∃ b, b = s[q].toNat := ⟨_, rfl⟩
      rw [← hbb] at hb256
      have hc := blk_cell hb1 b
      have hf := blk_frozen hb1 b
      rw [HG.out _ b hb256] at hc
      have hcl := HCL.out q b
      obtain ⟨c, hcc⟩ : ∃ c, c = cntL (s.data.toList.take q) b := ⟨_, rfl⟩
      rw [HSL.out] at hcl
      rw [← hcc] at hc hcl
      have hsb : s[q].toNat = b := hbb.symm
      have HCC := Lib.hid hcc
      have HBY := Lib.hid hby
      have HBB := Lib.hid hbb
      have hsz := HS.out fun b => cntL (s.data.toList.take q) b
      clear hb0 hb1 hb2 hb hcc hby hbb hz
      go_wp2_with fail
      go_roundw
      case rel =>
        refine ⟨q + 1, by omega, by go_num, blk_apart H0.out (by omega) _ _, ?_, blk_apart H2.out (by omega) _ _, HB.out.setCell (by show _ ≤ w.heap.size + 1; omega) _⟩
        have h1 := blk_set H1.out b (.int .i64 ((c + 1 : Nat) : Int))
        rw [HSET.out] at h1
        have e2 : (fun i => if i = b then c + 1 else cntL (s.data.toList.take q) i) = fun b => cntL (s.data.toList.take (q + 1)) b := by
          funext i
          rw [HCN.out q i (by rw [HSL.out]; omega), HBY.out, ← HBB.out, ← HCC.out]
        rw [e2] at h1
        exact h1
      case measure => simp [intOf]; omega
    · obtain rfl : q = s.size := by omega
      have hT : s.data.toList.take s.size = s.data.toList := List.take_of_length_le (Nat.le_of_eq HSL.out)
      rw [hT] at hb1
      have hi' : (Try.prog.info? 62).map (·.size) = some (T fun b => cntL s.data.toList b).size := by rw [HS.out]; exact HI.out
      have HI' := Lib.hid hi'
      have H1 := Lib.hid hb1
      have hsz := HS.out fun b => cntL s.data.toList b
      clear hb0 hb1 hb2 hb hz hT hi'
      go_wp2_with fail
      refine wp_load_row rfl rfl H1.out Try.underlying62 HI'.out ?_
      go_wp2_with fail
      have HFL := Lib.hid (first_le s.data.toList)
      have HB1 := Lib.hid HB.out
      go_loopw [6, 23] (fun l i wx => ∃ q : Nat, q ≤ 256 ∧ i = .int .i64 q ∧ l = .int .i64 (firstL s.data.toList q : Nat) ∧ Blk wx w.heap.size 62 (T fun _ => 0) ∧ Blk wx (w.heap.size + 1 + 1) 62 (T fun i => if i < q then firstL s.data.toList i else 0) ∧ Below w.heap.size w wx) (fun _ i _ => 256 - (intOf i).toNat)
      case atStart =>
        have e0 : (fun i => if i < 0 then firstL s.data.toList i else 0) = fun _ => 0 := by
          funext i
          rw [if_neg (by omega)]
        exact ⟨0, by omega, rfl, rfl, H0.out, by rw [e0]; exact H2.out, HB.out⟩
      case round =>
        clear H0 H1 H2 HB
        obtain ⟨q, hq, rfl, rfl, hb0, hb2, hb⟩ := hrel
        have H0 := Lib.hid hb0
        have H2 := Lib.hid hb2
        have HB := Lib.hid hb
        have hz9 := hb.size
        by_cases e : q < 256
        · have hcn := HG.out (fun b => cntL s.data.toList b) q e
          have hc := blk_cell hb2 q
          have hf := blk_frozen hb2 q
          rw [HG.out _ q e] at hc
          obtain ⟨v, hv⟩ : ∃ v, v = (if q < q then firstL s.data.toList q else 0) := ⟨_, rfl⟩
          rw [← hv] at hc
          have hle := HFL.out q hq
          have hle2 := HFL.out (q + 1) (by omega)
          have hnx : firstL s.data.toList (q + 1) = firstL s.data.toList q + cntL s.data.toList q := rfl
          rw [HSL.out] at hle hle2
          rw [hnx] at hle2
          have HNX := Lib.hid hnx
          obtain ⟨c, hcc⟩ : ∃ c, c = cntL s.data.toList q := ⟨_, rfl⟩
          obtain ⟨f, hff⟩ : ∃ f, f = firstL s.data.toList q := ⟨_, rfl⟩
          rw [← hcc] at hcn hle2
          rw [← hff] at hle hle2 ⊢
          have HCC := Lib.hid hcc
          have HFF := Lib.hid hff
          clear hb0 hb2 hb hnx hcc hff hv
          have hrun := run_index_arr wr (T fun b => cntL s.data.toList b) q c e hcn
          go_wp2_with fail
          go_roundw
          case rel =>
            refine ⟨q + 1, by omega, by go_num, ?_, blk_apart H0.out (by omega) _ _, ?_, HB.out.setCell (by show _ ≤ w.heap.size + 1 + 1; omega) _⟩
            · rw [HNX.out, ← HCC.out, ← HFF.out]
              go_num
            · have h1 := blk_set H2.out q (.int .i64 ((f : Nat) : Int))
              rw [HSET.out] at h1
              have e2 : (fun i => if i = q then f else if i < q then firstL s.data.toList i else 0) = fun i => if i < q + 1 then firstL s.data.toList i else 0 := by
                funext i
                by_cases h : i = q
                · subst h
                  rw [if_pos rfl, if_pos (by omega), HFF.out]
                · rw [if_neg h]
                  by_cases h2 : i < q
                  · rw [if_pos h2, if_pos (by omega)]
                  · rw [if_neg h2, if_neg (by omega)]
              rw [e2] at h1
              exact h1
          case measure => simp [intOf]; omega
        · obtain rfl : q = 256 := by omega
          have hsame : T (fun i => if i < 256 then firstL s.data.toList i else 0) = T (firstL s.data.toList) := HSAME.out _ _ fun i hi => if_pos hi
          rw [hsame] at hb2
          have hi2 : (Try.prog.info? 62).map (·.size) = some (T (firstL s.data.toList)).size := by rw [HS.out]; exact HI.out
          have H2 := Lib.hid hb2
          have HI2 := Lib.hid hi2
          have hst := store_cells_row (P := Try.prog) H0.out hi2 (by rw [HS.out, HS.out]) (HO.out _)
          have hsz := HS.out (firstL s.data.toList)
          clear hb0 hb2 hb hsame hi2
          go_wp2_with fail
          refine wp_load_row rfl rfl H2.out Try.underlying62 HI2.out ?_
          go_wp2_with fail
          refine bodyPost_ret (v := .agg (T (firstL s.data.toList))) (results_cell rfl rfl (setRow_heap _ _ _ _ _ _ H0.out) Try.underlying62 HI2.out) rfl ⟨rfl, ?_⟩
          exact below_setRow HB.out (Nat.le_refl _) _

end Go.Proofs.Ytglcideecelemaa
