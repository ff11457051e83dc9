/- The array of what eight 0 bits make of each byte, made. -/
import Derived.Test.YtkhabmbclepjpaaDa
import Derived.Test.YtkhabmbclepjpaaAw
import Derived.Deep.LoopGhost
namespace Go.Proofs.Ytkhabmbclepjpaa
open Go.RowKit

/-- The array with its first n cells laid. -/
def tabA (n : Nat) : Array Value := (Array.range 256).map fun i => .int .u32 (if i < n then (crcTab i : Int) else 0)
theorem tabA_size (n : Nat) : (tabA n).size = 256 := by simp [tabA]

theorem tabA_zero : tabA 0 = Array.replicate 256 (.int .u32 0) := by
  apply Array.ext
  · simp [tabA]
  · intro i h1 h2
    simp [tabA]
theorem zero37 : (∀ w, (zeroValue 37).run Try.prog w = .ok (.agg (tabA 0)) w) ∧ (Try.prog.info? 37).map (·.size) = some 256 := by
  rw [tabA_zero]
  exact zero_of_info (by kernel_rfl)

theorem tabA_next (n : Nat) : (tabA n).setIfInBounds n (.int .u32 (crcTab n)) = tabA (n + 1) := by
  apply Array.ext
  · simp [tabA]
  · intro i h1 h2
    rw [Array.getElem_setIfInBounds (by simpa [tabA] using h2)]
    by_cases e : n = i
    · subst e
      simp [tabA]
    · rw [if_neg e]
      have e2 : i < n ↔ i < n + 1 := by omega
      simp [tabA, e2]
theorem tabA_one (n : Nat) : (tabA n).all (·.oneCell') = true := by
  rw [Array.all_eq_true]
  intro i h
  simp [tabA, Value.oneCell']
theorem tabA_get (i : Nat) (h : i < 256) : (tabA 256)[i]? = some (.int .u32 (crcTab i : Nat)) := by
  simp [tabA, h]

set_option maxHeartbeats 1600000 in
set_option maxRecDepth 1000000 in
theorem eights_any (w : World) : Calls Try.prog 19 #[] w fun e w' => e = .returned (.agg (tabA 256)) ∧ Below w.heap.size w w' := by
  obtain ⟨hz, hi⟩ := zero37
  have HS := Lib.hid tabA_size
  have HN := Lib.hid tabA_next
  have HO := Lib.hid tabA_one
  generalize tabA = T at *
  have HI := Lib.hid hi
  clear hi
  go_enter Try.func19, Try.ntmps19
  go_wp2
  go_loopg [3] 256 (fun g s3 wx => ∃ i : Nat, i + g = 256 ∧ s3 = .int .i64 i ∧ wx = (w.alloc (.cells (T 0) 37)).alloc (.cells (T i) 37))
  case atStart => exact ⟨0, by omega, rfl, rfl⟩
  case round =>
    obtain ⟨i, hig, rfl, rfl⟩ := hrel
    clear hz
    cases gk with
    | zero =>
      obtain rfl : i = 256 := by omega
      have hlc := run_loadCellsFrom_new (P := Try.prog) (w.alloc (.cells (T 0) 37)) 37 (T 256) 256 (HS.out 256)
      have hlz : (w.alloc (.cells (T 0) 37)).heap.size = w.heap.size + 1 := by simp
      rw [hlz] at hlc
      clear hlz
      go_wp2
      trace_state
      have hg1 : ((w.alloc (.cells (T 0) 37)).alloc (.cells (T 256) 37)).heap[w.heap.size + 1]? = some (.cells (T 256) 37 (0, 0)) := by
        have := heap_alloc_last (w.alloc (.cells (T 0) 37)) (.cells (T 256) 37)
        simpa using this
      have hg0 : ((w.alloc (.cells (T 0) 37)).alloc (.cells (T 256) 37)).heap[w.heap.size]? = some (.cells (T 0) 37 (0, 0)) := by
        rw [heap_alloc_past _ _ _ (by simp)]
        exact heap_alloc_last w _
      have hi' : (Try.prog.info? 37).map (·.size) = some (T 256).size := by rw [HS.out]; exact HI.out
      refine wp_load_row rfl rfl hg1 Try.underlying37 hi' ?_
      have hst := store_cells_row (P := Try.prog) hg0 hi' (by rw [HS.out, HS.out]) (HO.out _)
      have hsz := HS.out 256
      have HI' := Lib.hid hi'
      have HG0 := Lib.hid hg0
      clear hi' hg0 hg1
      go_wp2
      refine bodyPost_ret (v := .agg (T 256)) (results_cell rfl rfl (setRow_heap _ _ _ _ _ _ HG0.out) Try.underlying37 HI'.out) rfl ⟨rfl, ?_⟩
      exact below_setRow (((Below.refl _ w).alloc (Nat.le_refl _) _).alloc (by simp) _) (Nat.le_refl _) _
    | succ g =>
      have hi1 : i < 256 := by omega
      have hsz : (T i).size = 256 := HS.out i
      have hge : (T i)[i]? = some (T i)[i] := Array.getElem?_eq_getElem _
      have HC := Lib.hid (shifted_any ((w.alloc (.cells (T 0) 37)).alloc (.cells (T i) 37)) (i * 16777216) (by omega))
      go_wp2_with (refine HC.out.mono ?_)
      rintro e w1 ⟨rfl, rfl⟩
      go_wp2
      go_roundg g
      case measure => omega
      case rel => exact ⟨i + 1, by omega, by first | rfl | simp, by rw [← HN.out i]; rfl⟩

end Go.Proofs.Ytkhabmbclepjpaa
