/- lengths.depths, lengths.Make. Conditions: as each says. -/
import Derived.Test.YtgnlpbnodijkgaaAk
import Derived.Test.YtgnlpbnodijkgaaAb
namespace Go.Proofs.Ytgnlpbnodijkgaa
open Go.RowKit

theorem FRow.cut {w : World} {B g c N n : Nat} {f : Nat → Nat} (h : FRow w B g c N f) (hn : n ≤ N) : FRow w B g c n f := by
  unfold FRow at *
  rcases h.2 with ⟨h', _⟩ | ⟨g', cap', cur, h', hB, hgg, hnc, hm, hsz, htk⟩
  · simp at h'
  · simp only [Value.slice.injEq, Option.some.injEq, Addr.mk.injEq, and_true, true_and] at h'
    obtain ⟨rfl, rfl⟩ := h'
    refine ⟨by rw [rowF_length, Nat.mul_one], .inr ⟨g, c, cur, rfl, hB, hgg, by omega, hm, hsz, ?_⟩⟩
    rw [Nat.mul_one] at htk ⊢
    have e : cur.toList.take n = (cur.toList.take N).take n := by rw [List.take_take, Nat.min_eq_left hn]
    rw [e, htk]
    unfold rowF
    rw [← List.map_take, List.take_range, Nat.min_eq_left hn]

set_option maxHeartbeats 3200000 in
set_option maxRecDepth 100000 in
theorem depths_any (w : World) (A : Option Addr) (n c : Nat) (f : Nat → Nat) (hL : IntsIn w A n ((List.range n).map f)) (h2 : 2 ≤ n) (hn : n ≤ 258) (hf : ∀ i, i < n → 1 ≤ f i ∧ f i ≤ 1073741824) :
    Calls Try.prog 43 #[.slice A n c] w fun e w' => ∃ g c2 len, e = .returned (.slice (some ⟨g, 0, none⟩) n c2) ∧ HLen ((List.range n).map f) len ∧ FRow w' w.heap.size g c2 n len ∧ Below w.heap.size w w' := by
  have HJ := Lib.hid (join_any w A n c f hL h2 hn hf)
  obtain ⟨N, hN⟩ : ∃ N, N = 2 * n - 1 := ⟨_, rfl⟩
  rw [← hN] at HJ
  have HN := Lib.hid hN
  have hN3 : 3 ≤ N := by omega
  have hN5 : N ≤ 515 := by omega
  have hnN : n ≤ N := by omega
  clear hL hf hN
  go_enter Try.func43, Try.ntmps43
  go_wp2_with fail
  refine HJ.out.mono ?_
  rintro e w2 ⟨gI, ov, ws, act, len, rfl, hg, hr, hb⟩
  obtain ⟨dd, hd0, hdn, hdb, hlen, hdl⟩ := depth_fun (by rw [← HN.out]; exact hg)
  have HD0 := Lib.hid hd0
  have HDN := Lib.hid hdn
  have HDB := Lib.hid hdb
  have HLEN := Lib.hid hlen
  have HDL := Lib.hid hdl
  have HR := Lib.hid hr
  have HB := Lib.hid hb
  have hmk := make_noughts w2 N (by omega)
  have HMW := Lib.hid (made_noughts w2 w.heap.size N hb.size (by omega))
  have hgI : gI < w2.heap.size := hr.lt.2
  have hNz : (N : Int) - 2 = ((N - 2 : Nat) : Int) := by omega
  clear hg hr hb HJ hd0 hdn hdb hlen hdl
  go_wp2_with fail
  clear hmk
  have HB2 : Hid (Below w2.heap.size w2 (w2.alloc (.cells (madeCells #[.int .i64 0] N) 3))) := Lib.hid ((Below.refl _ _).alloc (Nat.le_refl _) _)
  go_loopw [5] (fun x wx => ∃ (q : Nat) (i : Int), q + 1 ≤ N ∧ i = (q : Int) - 1 ∧ x = .int .i64 i ∧ FRow wx w.heap.size w2.heap.size N N (fun j => if q ≤ j then dd j else 0) ∧ Below w2.heap.size w2 wx) (fun x _ => (intOf x + 1).toNat)
  case atStart =>
    refine ⟨N - 1, _, by omega, ?_, rfl, ?_, HB2.out⟩
    · omega
    · have h3 : (w2.alloc (.cells (madeCells #[.int .i64 0] N) 3)).ownsRow w.heap.size 3 1 (.slice (some ⟨w2.heap.size, 0, none⟩) N N) N (rowF N fun _ => 0) := HMW.out
      rw [rowF_same N (fun _ => 0) (fun j => if N - 1 ≤ j then dd j else 0) fun j hj => by
        by_cases e : N - 1 ≤ j
        · rw [if_pos e, show j = 2 * n - 2 by have := HN.out; omega, HD0.out]
        · rw [if_neg e]] at h3
      exact h3
  case round =>
    clear HMW HB2
    obtain ⟨q, i, hq, hi, rfl, hf, hbx⟩ := hrel
    rcases Nat.eq_zero_or_pos q with e0 | e0
    · subst e0
      have di : decide ((0 : Int) ≤ i) = false := decide_eq_false (by omega)
      clear hi
      have h3 : wr.ownsRow w.heap.size 3 1 (.slice (some ⟨w2.heap.size, 0, none⟩) N N) N (rowF N fun j => if 0 ≤ j then dd j else 0) := hf
      rw [rowF_same N _ dd fun j hj => if_pos (Nat.zero_le j)] at h3
      have h4 : FRow wr w.heap.size w2.heap.size N N dd := h3
      have h5 : FRow wr w.heap.size w2.heap.size N n len := by
        have h6 : wr.ownsRow w.heap.size 3 1 (.slice (some ⟨w2.heap.size, 0, none⟩) n N) n (rowF n dd) := h4.cut hnN
        rw [rowF_same n dd len fun j hj => (HDL.out j hj).symm] at h6
        exact h6
      have H5 := Lib.hid h5
      have HBE := Lib.hid (HB.out.trans (hbx.mono HB.out.size))
      have hnI : (0 : Int) ≤ (n : Int) := by omega
      have hnNI : (n : Int) ≤ (N : Int) := by omega
      clear hf hbx h3 h4 h5 HDN HDB HDL HR HD0 HB
      go_wp2_with fail
      go_ret
      exact ⟨w2.heap.size, N, len, rfl, HLEN.out, H5.out, HBE.out⟩
    · obtain ⟨r, rfl⟩ : ∃ r, q = r + 1 := ⟨q - 1, by omega⟩
      have hi2 : i = (r : Int) := by omega
      subst hi2
      have dr : decide ((0 : Int) ≤ (r : Int)) = true := decide_eq_true (by omega)
      have hrN : r < N := by omega
      have hrI : (0 : Int) ≤ (r : Int) := by omega
      have hrNI : (r : Int) < (N : Int) := by omega
      have hd := HDN.out r (by have := HN.out; omega)
      have ci := (HR.out.below hbx hgI).cell r hrN
      have hb1 := HDB.out (ov r)
      obtain ⟨o, ho⟩ : ∃ o, o = ov r := ⟨_, rfl⟩
      rw [← ho] at ci hd hb1
      have hoN : o < N := by have := HN.out; omega
      have hoI : (0 : Int) ≤ (o : Int) := by omega
      have hoNI : (o : Int) < (N : Int) := by omega
      have co := hf.cell o hoN
      rw [if_pos (by omega)] at co
      have cr := hf.cell r hrN
      have fr := hf.frozen r
      obtain ⟨v, hv⟩ : ∃ v, v = dd o := ⟨_, rfl⟩
      rw [← hv] at co hd hb1
      obtain ⟨v1, hv1⟩ : ∃ v1, v1 = v + 1 := ⟨_, rfl⟩
      have hvz : (v : Int) + 1 = (v1 : Int) := by omega
      have hvb : v1 ≤ 1000 := by omega
      have hs := hf.set r v1
      have hfn : (fun j => if j = r then v1 else if r + 1 ≤ j then dd j else 0) = fun j => if r ≤ j then dd j else 0 := by
        funext j
        by_cases ej : j = r
        · rw [if_pos ej, if_pos (by omega), ej, hd.2.2, hv1]
        · rw [if_neg ej]
          by_cases ej2 : r + 1 ≤ j
          · rw [if_pos ej2, if_pos (by omega)]
          · rw [if_neg ej2, if_neg (by omega)]
      rw [hfn] at hs
      have HS := Lib.hid hs
      have HBS := Lib.hid (hbx.setCell (p := ⟨w2.heap.size, r, none⟩) (Nat.le_refl _) (.int .i64 (v1 : Nat)))
      clear hf hbx hs hfn hd ho hv hv1 hb1 hi
      go_wp2_with fail
      go_roundw
      case rel => exact ⟨r, (r : Int) - 1, by omega, rfl, by go_num, HS.out, HBS.out⟩
      case measure => simp [intOf]

end Go.Proofs.Ytgnlpbnodijkgaa
