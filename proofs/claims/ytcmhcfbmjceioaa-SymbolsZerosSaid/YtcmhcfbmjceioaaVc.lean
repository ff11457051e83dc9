/- setOf. Conditions: a text of at most a million bytes. -/
import Derived.Test.YtcmhcfbmjceioaaVb
namespace Go.Proofs.Ytcmhcfbmjceioaa
open Go.RowKit

theorem getD_byte (s : ByteArray) (i : Nat) (h : i < s.size) : s.data.toList.getD i 0 = s[i] := by
  rw [List.getD_eq_getElem?_getD, List.getElem?_eq_getElem (by simpa using h)]
  rfl
theorem blk_apart {w : World} {g k : Nat} {t : TypeId} {cs : Array Value} (h : Blk w g t cs) (hne : g ≠ k) (i : Nat) (u : Value) : Blk (w.setCell ⟨k, i, none⟩ u) g t cs := by
  show (w.setCell ⟨k, i, none⟩ u).heap[g]? = _
  rw [Below.heap_setCell w ⟨k, i, none⟩ u g hne]
  exact h
theorem arr_two (w : World) (a b : Array Value) (t : TypeId) : Blk ((w.alloc (.cells a t)).alloc (.cells b t)) w.heap.size t a ∧ Blk ((w.alloc (.cells a t)).alloc (.cells b t)) (w.heap.size + 1) t b := by
  have e1 : (w.alloc (.cells a t)).heap.size = w.heap.size + 1 := by simp
  refine ⟨?_, ?_⟩
  · show (World.alloc _ _).heap[_]? = _
    rw [heap_alloc_past _ _ _ (by simp)]
    exact blk_new w t a
  · rw [← e1]
    exact blk_new _ t b

/-- What setOf answers: rows that hold the text's bytes. -/
def SetPost (w : World) (s : List UInt8) (e : Ending) (w' : World) : Prop := ∃ f, e = .returned (.agg (arrG f)) ∧ RepF (fun b => decide (UInt8.ofNat b ∈ s)) f ∧ Below w.heap.size w w'

set_option maxHeartbeats 1600000 in
set_option maxRecDepth 100000 in
theorem setof_any (w : World) (s : ByteArray) (hs : s.size ≤ 1000000) : Calls Try.prog 23 #[.string s] w (SetPost w s.data.toList) := by
  obtain ⟨hz, hi⟩ := zeroRows
  obtain ⟨i50, hi50, hz50⟩ := info_u64
  have HP : Hid (∀ f w', RepF (fun b => decide (UInt8.ofNat b ∈ s.data.toList)) f → Below w.heap.size w w' → SetPost w s.data.toList (.returned (.agg (arrG f))) w') := Lib.hid fun f w' h1 h2 => ⟨f, rfl, h1, h2⟩
  have HI := Lib.hid hi
  have HS := Lib.hid arrG_size
  have HSET := Lib.hid arrG_set
  have HO := Lib.hid arrG_one
  have HG := Lib.hid arrG_get
  have HBIT := Lib.hid bit_any
  have hr0 : RepF (fun b => decide (UInt8.ofNat b ∈ s.data.toList.take 0)) (fun _ => 0) := by simpa using rep_none
  have HR0 := Lib.hid hr0
  have hsl : s.data.toList.length = s.size := rfl
  have HSL := Lib.hid hsl
  have HRB := Lib.hid (rep_byte s.data.toList)
  generalize SetPost w s.data.toList = PO at *
  generalize arrG = T at *
  clear hi hr0 hsl
  go_enter Try.func23, Try.ntmps23
  go_wp2
  go_loopw [8] (fun i wx => ∃ (q : Nat) (f : Nat → Nat), q ≤ s.size ∧ i = .int .i64 q ∧ Hid (RepF (fun b => decide (UInt8.ofNat b ∈ s.data.toList.take q)) f) ∧ Blk wx w.heap.size 52 (T fun _ => 0) ∧ Blk wx (w.heap.size + 1) 52 (T f) ∧ Below w.heap.size w wx) (fun i _ => s.size - (intOf i).toNat)
  case atStart =>
    obtain ⟨h1, h2⟩ := arr_two w (T fun _ => 0) (T fun _ => 0) 52
    exact ⟨0, _, Nat.zero_le _, rfl, HR0, h1, h2, ((Below.refl _ w).alloc (Nat.le_refl _) _).alloc (by simp) _⟩
  case round =>
    obtain ⟨q, f, hq, rfl, hrep, hb0, hb1, hb⟩ := hrel
    have H0 := Lib.hid hb0
    have H1 := Lib.hid hb1
    have HB := Lib.hid hb
    have hz9 := hb.size
    by_cases e : q < s.size
    · have hb256 := UInt8.toNat_lt s[q]
      have hby := getD_byte s q e
      obtain ⟨b, hbb⟩ : ∃ b, b = s[q].toNat := ⟨_, rfl⟩
      rw [← hbb] at hb256
      obtain ⟨d, hd⟩ : ∃ d, d = b / 16 := ⟨_, rfl⟩
      obtain ⟨m, hm⟩ : ∃ m, m = b % 16 := ⟨_, rfl⟩
      have hd16 : d < 16 := by omega
      have hm16 : m < 16 := by omega
      have hdI : (0 : Int) ≤ (d : Int) := by omega
      have hdJ : (d : Int) < 16 := by omega
      have hwd : IntKind.i64.wrap (d : Int) = (d : Int) := by rw [IntKind.wrap_i64]; omega
      have hdz : (b : Int) / 16 = (d : Int) := by omega
      have hmz : (b : Int) % 16 = (m : Int) := by omega
      have hmt : (b : Int).tmod 16 = (m : Int) := by rw [Int.tmod_eq_emod_of_nonneg (by omega)]; exact hmz
      have hc := blk_cell hb1 d
      have hf := blk_frozen hb1 d
      rw [HG.out _ d hd16] at hc
      have hrd := hrep.out d hd16
      obtain ⟨c, hcc⟩ : ∃ c, c = f d := ⟨_, rfl⟩
      rw [← hcc] at hc
      have hc6 : c < 65536 := by rw [hcc]; exact hrd.1
      have hp6 : 2 ^ (15 - m) < 65536 := Nat.pow_lt_pow_right (by decide) (show 15 - m < 16 by omega)
      have hor := u64_or_nat c (2 ^ (15 - m)) (by omega) (by omega)
      obtain ⟨y, hy⟩ : ∃ y, y = c ||| 2 ^ (15 - m) := ⟨_, rfl⟩
      rw [← hy] at hor
      have hbit := fun w1 : World => HBIT.out w1 m hm16
      obtain ⟨x, hx⟩ : ∃ x, x = 2 ^ (15 - m) := ⟨_, rfl⟩
      rw [← hx] at hor
      replace hbit : ∀ w1 : World, Calls Try.prog 40 #[.int .i64 m] w1 fun e w' => e = .returned (.int .u64 (x : Int)) ∧ w1 = w' := by
        intro w1
        rw [hx]
        exact hbit w1
      have hsb : s[q].toNat = b := hbb.symm
      have hsz := HS.out f
      have HCC := Lib.hid hcc
      have HBY := Lib.hid hby
      have HBB := Lib.hid hbb
      have HD := Lib.hid hd
      have HM := Lib.hid hm
      have HY := Lib.hid hy
      have HX := Lib.hid hx
      have HBIT2 := Lib.hid hbit
      have HF := Lib.hid hf
      have HC := Lib.hid hc
      clear hb0 hb1 hb hby hbb hz hd hm hcc hy hx hrd hbit hp6
      go_upto_region 6 with fail
      go_region_with (first | (go_at_call 40; (try rw [hmt]); refine (HBIT2.out _).mono ?_; rintro e w' ⟨rfl, rfl⟩))
      all_goals (go_wp2_with fail; go_roundw)
      case' rel => skip
      all_goals first
        | (refine ⟨q + 1, orF f b, by omega, by go_num, ?_, blk_apart H0.out (by omega) _ _, ?_, (HB.out.setCell (p := ⟨w.heap.size + 1, d, none⟩) (by show _ ≤ w.heap.size + 1; omega) _).drew⟩
           · have h1 := HRB.out q (by rw [HSL.out]; omega) f hrep.out
             rw [HBY.out, ← HBB.out] at h1
             exact h1
           · have h1 := blk_set H1.out d (.int .u64 (y : Nat))
             rw [HSET.out] at h1
             have e2 : (fun i => if i = d then y else f i) = orF f b := by
               funext i
               unfold orF
               rw [HY.out, HCC.out, HD.out, HM.out]
             rw [e2] at h1
             exact h1)
        | (simp [intOf]; omega)
    · obtain rfl : q = s.size := by omega
      have hT : s.data.toList.take s.size = s.data.toList := List.take_of_length_le (Nat.le_of_eq HSL.out)
      rw [hT] at hrep
      have hi1 : (Try.prog.info? 52).map (·.size) = some (T f).size := by rw [HS.out]; exact HI.out
      have H1 := Lib.hid hb1
      have HI1 := Lib.hid hi1
      have hst := store_cells_row (P := Try.prog) H0.out hi1 (by rw [HS.out, HS.out]) (HO.out _)
      have hsz := HS.out f
      clear hb0 hb1 hb hT hi1 hz hi50 hz50
      go_upto_region 8 with fail
      refine wp_region_lit (wpList_load_row rfl rfl rfl H1.out Try.underlying52 HI1.out ?_)
      go_wp2_with fail
      refine bodyPost_ret (v := .agg (T f)) (results_cell rfl rfl (setRow_heap _ _ _ _ _ _ H0.out) Try.underlying52 HI1.out) rfl (HP.out f _ hrep.out ?_)
      exact below_setRow HB.out (Nat.le_refl _) _

end Go.Proofs.Ytcmhcfbmjceioaa
