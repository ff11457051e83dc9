/- Out of a last column: its places, sorted by their bytes: sortedPlaces. Conditions: at most a million bytes. -/
import Derived.Test.YtglcideecelemaaBb
import Derived.Test.YtglcideecelemaaKh
namespace Go.Proofs.Ytglcideecelemaa
open Go.RowKit

theorem IRow.apart {w : World} {g k : Nat} {L : List Nat} (h : IRow w g L) (hne : g ≠ k) (i : Nat) (u : Value) : IRow (w.setCell ⟨k, i, none⟩ u) g L := by
  obtain ⟨cs, hb, hc⟩ := h
  exact ⟨cs, blk_apart hb hne i u, hc⟩

set_option maxHeartbeats 1600000 in
set_option maxRecDepth 1000000 in
theorem sorted_any (w : World) (s : ByteArray) (hs : s.size ≤ 1000000) : Calls Try.prog 25 #[.string s] w fun e w' => ∃ g, e = .returned (.slice (some ⟨g, 0, none⟩) s.size s.size) ∧ IRow w' g (placesL s.data.toList) ∧ w.heap.size ≤ g ∧ Below w.heap.size w w' := by
  obtain ⟨i3, h3, hz0, hz1, hz2⟩ := info_parts Try.info3
  have hmk : ∀ w1 : World, (Instr.makeSlice 34 (.int .i64 s.size) (.int .i64 s.size)).run Try.prog w1 = .ok (.slice (some ⟨w1.heap.size, 0, none⟩) s.size s.size) (w1.alloc (.cells (madeCells #[.int .i64 0] s.size) 3)) := by
    intro w1
    have h := run_make (P := Try.prog) w1 34 3 i3 (.int .i64 0) Try.underlying34 h3 hz0 .i64 .i64 (s.size : Int) (s.size : Int) (by omega) (by omega) (by rw [hz2]; omega) (by omega)
    rw [hz1, Int.toNat_natCast, Nat.mul_one] at h
    exact h
  obtain ⟨hz, hi⟩ := zeroArr
  have hsl : s.data.toList.length = s.size := rfl
  have HSL := Lib.hid hsl
  have HI := Lib.hid hi
  have HS := Lib.hid arrF_size
  have HSET := Lib.hid arrF_set
  have HO := Lib.hid arrF_one
  have HG := Lib.hid arrF_get
  have HF0 := Lib.hid (show (fun b => firstL s.data.toList b + cntL (s.data.toList.take 0) b) = firstL s.data.toList from by funext b; simp [cntL])
  have HST := Lib.hid (starts_any w s hs)
  generalize arrF = T at *
  have HCN := Lib.hid (cnt_next s.data.toList)
  have HRL := Lib.hid (rank_lt s.data.toList)
  have HRI := Lib.hid (rank_inj s.data.toList)
  have HPL := Lib.hid (places_of_ranks s.data.toList)
  have hze := IRow.zeros
  have HZE := Lib.hid hze
  clear hi hsl hze h3 hz0 hz1 hz2
  go_enter Try.func25, Try.ntmps25
  go_wp2_with fail
  refine HST.out.mono ?_
  rintro e w1 ⟨rfl, hb1⟩
  have hst := run_storeCells_new (P := Try.prog) w1 62 (T fun _ => 0) (T (firstL s.data.toList)) (by rw [HS.out]; exact HI.out) (by rw [HS.out, HS.out]) (HO.out _)
  have hsz := HS.out (firstL s.data.toList)
  have hmk2 := hmk (w1.alloc (.cells (T (firstL s.data.toList)) 62))
  have hz1 := hb1.size
  have HB1 := Lib.hid hb1
  have HMK := Lib.hid hmk
  clear hb1 hmk
  go_wp2_with fail
  clear hst hmk2
  go_loopw [13] (fun i wx => ∃ (q : Nat) (L : List Nat), q ≤ s.size ∧ i = .int .i64 q ∧ Blk wx w1.heap.size 62 (T fun b => firstL s.data.toList b + cntL (s.data.toList.take q) b) ∧ IRow wx (w1.heap.size + 1) L ∧ L.length = s.size ∧ (∀ j, j < q → L[rankL s.data.toList j]? = some j) ∧ Below w.heap.size w wx) (fun i _ => s.size - (intOf i).toNat)
  case atStart =>
    have hrow := HZE.out (w1.alloc (.cells (T (firstL s.data.toList)) 62)) s.size
    have e1 : (w1.alloc (.cells (T (firstL s.data.toList)) 62)).heap.size = w1.heap.size + 1 := by simp
    rw [e1] at hrow
    have hblk : Blk ((w1.alloc (.cells (T (firstL s.data.toList)) 62)).alloc (.cells (madeCells #[.int .i64 0] s.size) 3)) w1.heap.size 62 (T (firstL s.data.toList)) := by
      show (World.alloc _ _).heap[_]? = _
      rw [heap_alloc_past _ _ _ (by simp)]
      exact blk_new w1 62 _
    exact ⟨0, List.replicate s.size 0, Nat.zero_le _, rfl, by rw [HF0.out]; exact hblk, hrow, List.length_replicate, fun j h => by omega, (HB1.out.alloc hz1 _).alloc (by simp; omega) _⟩
  case round =>
    obtain ⟨q, L, hq, rfl, hbl, hrow, hlen, hfill, hb⟩ := hrel
    have H0 := Lib.hid hbl
    have H1 := Lib.hid hrow
    have HL := Lib.hid hlen
    have HF := Lib.hid hfill
    have HB := Lib.hid hb
    have hz9 := hb.size
    by_cases e : q < s.size
    · have hb256 := UInt8.toNat_lt s[q]
      have hby := getD_byte s q e
      have hrk : rankL s.data.toList q = firstL s.data.toList s[q].toNat + cntL (s.data.toList.take q) s[q].toNat := by rw [rankL, hby]
      have hrl := HRL.out q (by rw [HSL.out]; exact e)
      rw [HSL.out] at hrl
      obtain ⟨b, hbb⟩ : ∃ b, b = s[q].toNat := ⟨_, rfl⟩
      obtain ⟨r, hrr⟩ : ∃ r, r = rankL s.data.toList q := ⟨_, rfl⟩
      rw [← hbb] at hb256 hrk
      rw [← hrr] at hrl hrk
      have hc := blk_cell hbl b
      have hf := blk_frozen hbl b
      have hf1 := hrow.frozen r
      rw [HG.out _ b hb256, ← hrk] at hc
      have hsb : s[q].toNat = b := hbb.symm
      have hbl2 := blk_apart hbl (show w1.heap.size ≠ w1.heap.size + 1 by omega) r (.int .i64 q)
      have hc2 := blk_cell hbl2 b
      have hf2 := blk_frozen hbl2 b
      rw [HG.out _ b hb256, ← hrk] at hc2
      have hcr := hrow.cell (i := r) (by rw [hlen]; exact hrl)
      obtain ⟨v0, hv0⟩ : ∃ v0, v0 = L.getD r 0 := ⟨_, rfl⟩
      rw [← hv0] at hcr
      have hsz := HS.out fun b => firstL s.data.toList b + cntL (s.data.toList.take q) b
      have HBL2 := Lib.hid hbl2
      have HRK := Lib.hid hrk
      have HRR := Lib.hid hrr
      have HBY := Lib.hid hby
      have HBB := Lib.hid hbb
      clear hbl hrow hlen hfill hb hbl2 hrk hrr hby hbb hv0 hz
      go_wp2_with fail
      go_roundw
      case rel =>
        refine ⟨q + 1, L.set r q, by omega, by go_num, ?_, (H1.out.set (by rw [HL.out]; exact hrl) q).apart (by omega) _ _, by rw [List.length_set]; exact HL.out, fun j hj => ?_, (HB.out.setCell (by show _ ≤ w1.heap.size + 1; omega) _).setCell (by show _ ≤ w1.heap.size; omega) _⟩
        · have h1 := blk_set HBL2.out b (.int .i64 ((r + 1 : Nat) : Int))
          rw [HSET.out] at h1
          have e2 : (fun i => if i = b then r + 1 else firstL s.data.toList i + cntL (s.data.toList.take q) i) = fun b => firstL s.data.toList b + cntL (s.data.toList.take (q + 1)) b := by
            funext i
            rw [HCN.out q i (by rw [HSL.out]; exact e), HBY.out, ← HBB.out, HRK.out]
            by_cases h : i = b
            · subst h
              rw [if_pos rfl, if_pos rfl, Nat.add_assoc]
            · rw [if_neg h, if_neg h]
          rw [e2] at h1
          exact h1
        · by_cases h : j = q
          · subst h
            rw [← HRR.out, List.getElem?_set_self (by rw [HL.out]; exact hrl)]
          · have hne : r ≠ rankL s.data.toList j := fun h2 => h (HRI.out j q (by rw [HSL.out]; omega) (by rw [HSL.out]; exact e) (h2.symm.trans HRR.out))
            rw [List.getElem?_set_ne hne]
            exact HF.out j (by omega)
      case measure => simp [intOf]; omega
    · obtain rfl : q = s.size := by omega
      have hL := HPL.out L (by rw [HSL.out]; exact HL.out) fun i hi => HF.out i (by rw [HSL.out] at hi; exact hi)
      subst hL
      clear hbl hrow hlen hfill hb hz
      go_wp2_with fail
      go_ret
      exact ⟨_, rfl, H1.out, by omega, HB.out⟩

end Go.Proofs.Ytglcideecelemaa
