/- Grl: texts laid together, what is not used left out. -/
import Derived.Test.YtmgmgmbpldboiaaZ23
import Derived.Test.YtmgmgmbpldboiaaZ24
import Derived.Test.YtmgmgmbpldboiaaZ25
namespace Go.Proofs.Ytmgmgmbpldboiaa
open Go.RowKit

set_option maxRecDepth 100000 in
theorem place_behind : ∀ (o r : List Nat) (x : Nat), x ∈ o → placeOf (o ++ r) x = placeOf o x
  | [], _, _, h => by cases h
  | y :: o, r, x, h => by
    rw [List.cons_append, placeOf, placeOf]
    by_cases e : y = x
    · rw [if_pos e, if_pos e]
    · rw [if_neg e, if_neg e, place_behind o r x (by
        rcases List.mem_cons.1 h with rfl | h
        · exact absurd rfl e
        · exact h)]
set_option maxRecDepth 100000 in
theorem moveF_behind (o r : List Nat) (k : Nat) (hk : k < o.length) : moveF (o ++ r) k = moveF o k ++ r := by
  unfold moveF
  rw [List.take_append_of_le_length (by omega), List.drop_append_of_le_length (by omega), List.getD_eq_getElem?_getD, List.getElem?_append_left hk, ← List.getD_eq_getElem?_getD]
  simp
set_option maxRecDepth 100000 in
theorem mem_moveF {o : List Nat} {k x : Nat} (hk : k < o.length) (hx : x ∈ o) : x ∈ moveF o k := by
  unfold moveF
  obtain ⟨i, hi, rfl⟩ := List.getElem_of_mem hx
  rcases Nat.lt_trichotomy i k with h | h | h
  · refine List.mem_cons_of_mem _ (List.mem_append_left _ ?_)
    exact List.mem_take_iff_getElem.2 ⟨i, by omega, rfl⟩
  · subst h
    rw [List.getD_eq_getElem?_getD, List.getElem?_eq_getElem hk]
    exact List.mem_cons_self ..
  · refine List.mem_cons_of_mem _ (List.mem_append_right _ ?_)
    exact List.mem_drop_iff_getElem.2 ⟨i - (k + 1), by omega, by simp only [show k + 1 + (i - (k + 1)) = i by omega]⟩
/-- Tables that are not picked change no place. -/
theorem putPicks_behind : ∀ (P o r : List Nat), (∀ x ∈ P, x ∈ o) → putPicks (o ++ r) P = putPicks o P
  | [], _, _, _ => rfl
  | x :: P, o, r, h => by
    have hx := h x (List.mem_cons_self ..)
    have hp := place_lt o x hx
    rw [putPicks, putPicks, place_behind o r x hx, moveF_behind o r _ hp.1, putPicks_behind P (moveF o (placeOf o x)) r (fun y hy => mem_moveF hp.1 (h y (List.mem_cons_of_mem _ hy)))]
set_option maxRecDepth 100000 in
theorem six_range {T : Nat} (h : T ≤ 6) : ∃ r, [0, 1, 2, 3, 4, 5] = List.range T ++ r := by
  refine ⟨[0, 1, 2, 3, 4, 5].drop T, ?_⟩
  have : T = 0 ∨ T = 1 ∨ T = 2 ∨ T = 3 ∨ T = 4 ∨ T = 5 ∨ T = 6 := by omega
  rcases this with rfl | rfl | rfl | rfl | rfl | rfl | rfl <;> rfl
theorem putPicks_range {T : Nat} (h : T ≤ 6) (P : List Nat) (hP : ∀ x ∈ P, x < T) : putPicks [0, 1, 2, 3, 4, 5] P = putPicks (List.range T) P := by
  obtain ⟨r, hr⟩ := six_range h
  rw [hr]
  exact putPicks_behind P _ r fun x hx => List.mem_range.2 (hP x hx)
set_option maxRecDepth 100000 in
theorem putPicks_length : ∀ (P o : List Nat) (T : Nat), o.length = T → (∀ x ∈ P, x ∈ o) → (putPicks o P).length ≤ T * P.length
  | [], _, _, _, _ => by simp [putPicks]
  | x :: P, o, T, hT, h => by
    have hx := h x (List.mem_cons_self ..)
    have hp := place_lt o x hx
    have ih := putPicks_length P (moveF o (placeOf o x)) T (by rw [moveF_length hp.1, hT]) (fun y hy => mem_moveF hp.1 (h y (List.mem_cons_of_mem _ hy)))
    rw [putPicks, List.length_append, List.length_replicate, List.length_cons, List.length_cons, Nat.mul_succ]
    omega
set_option maxRecDepth 100000 in
/-- A row behind a move, as a list. -/
theorem moveR_list (f : Nat → Nat) (n p : Nat) (h : p < n) : (List.range n).map (moveR f p) = moveF ((List.range n).map f) p := by
  have hl : ((List.range n).map f).length = n := by simp
  apply List.ext_getElem?
  intro j
  by_cases hj : j < n
  · rw [List.getElem?_map, List.getElem?_range hj]
    unfold moveF moveR
    match j with
    | 0 =>
      rw [List.getElem?_cons_zero, range_getD n f p h]
      rfl
    | j + 1 =>
      rw [List.getElem?_cons_succ]
      by_cases e : j < p
      · rw [List.getElem?_append_left (by simp; omega), List.getElem?_take, if_pos e, List.getElem?_map, List.getElem?_range (by omega)]
        show some (if j + 1 = 0 then f p else if j + 1 ≤ p then f (j + 1 - 1) else f (j + 1)) = _
        rw [if_neg (by omega), if_pos (by omega)]
        rfl
      · rw [List.getElem?_append_right (by simp; omega), List.getElem?_drop, List.length_take, hl, Nat.min_eq_left (by omega), show p + 1 + (j - p) = j + 1 by omega, List.getElem?_map, List.getElem?_range (by omega)]
        show some (if j + 1 = 0 then f p else if j + 1 ≤ p then f (j + 1 - 1) else f (j + 1)) = _
        rw [if_neg (by omega), if_neg (by omega)]
        rfl
  · rw [List.getElem?_eq_none (by simp; omega), List.getElem?_eq_none (by rw [moveF_length (by rw [hl]; exact h), hl]; omega)]

set_option maxRecDepth 100000 in
theorem place_bits (k : Nat) (h : k ≤ 5) : bitsN (2 ^ (k + 1) - 2) (k + 1) = List.replicate k 1 ++ [0] := by
  have : k = 0 ∨ k = 1 ∨ k = 2 ∨ k = 3 ∨ k = 4 ∨ k = 5 := by omega
  rcases this with rfl | rfl | rfl | rfl | rfl | rfl <;> decide
theorem place_put (k : Nat) (hk : k ≤ 5) (B : Nat) (w : World) (p : Nat) (v : Value) (L : List Nat) (hW : IsW B w p v L) (hL : L.length ≤ 1000000000000) (x n : Int) (hx : x = ((2 ^ (k + 1) - 2 : Nat) : Int)) (hn : n = ((k + 1 : Nat) : Int)) :
    Calls Try.prog 41 #[.pointer (some ⟨p, 0, none⟩), .int .u64 x, .int .i64 n] w fun e w' => e = .returned (.int .i64 0) ∧ ∃ v', IsW B w' p v' (L ++ (List.replicate k 1 ++ [0])) ∧ Step B [p] [5] w w' := by
  rw [← place_bits k hk, hx, hn]
  refine put_ok B w p v L (2 ^ (k + 1) - 2) (k + 1) hW hL (by omega) ?_
  have := Nat.two_pow_pos (k + 1)
  omega

/-- Picks were put behind what a writer held. -/
def PutsPost (B : Nat) (w : World) (p : Nat) (L : List Nat) (e : Ending) (w' : World) : Prop := e = .returned (.tuple #[]) ∧ (∃ v', IsW B w' p v' L) ∧ Step B [p] [5] w w'

set_option maxHeartbeats 6400000 in
set_option maxRecDepth 100000 in
theorem cputpicks_any (B : Nat) (w : World) (p : Nat) (v : Value) (L : List Nat) (hW : IsW B w p v L) (hL : L.length ≤ 1000000) (A : Option Addr) (T c : Nat) (Bp : Option Addr) (G d : Nat) (P : List Nat) (hP : IntsIn w Bp G P)
    (hPb : ∀ a, Bp = some a → a.block < B) (hT2 : 2 ≤ T) (hT6 : T ≤ 6) (hG1 : 1 ≤ G) (hG : G ≤ 32767) (hPT : ∀ x ∈ P, x < T) :
    Calls Try.prog 21 #[.pointer (some ⟨p, 0, none⟩), .agg #[.slice A T c, .slice Bp G d]] w (PutsPost B w p (L ++ (bitsN T 3 ++ bitsN G 15 ++ putPicks (List.range T) P))) := by
  have hB : B ≤ w.heap.size := Nat.le_trans hW.lo (Nat.le_of_lt (blk_lt hW.blk))
  have hpl := blk_lt hW.blk
  have hlp := hP.1
  obtain ⟨b, off, rfl, hpc⟩ := hP.2 hG1
  have hbB : b < B := hPb _ rfl
  have HPC := Lib.hid hpc
  have hst1 : Step B [p] [5] w (w.alloc (.cells #[.slice A T c, .slice (some ⟨b, off, none⟩) G d] 32)) := (Step.refl _ _ _ _).alloc hB _
  have hW1 := hW.alloc (.cells #[.slice A T c, .slice (some ⟨b, off, none⟩) G d] 32)
  have hk1 := blk_new w 32 #[.slice A T c, .slice (some ⟨b, off, none⟩) G d]
  obtain ⟨F, hF⟩ : ∃ F, F = L ++ (bitsN T 3 ++ bitsN G 15 ++ putPicks (List.range T) P) := ⟨_, rfl⟩
  have HFE := Lib.hid hF
  have HPO : Hid (∀ w' v', IsW B w' p v' F → Step B [p] [5] w w' → PutsPost B w p F (.returned (.tuple #[])) w') := Lib.hid fun w' v' h1 h2 => ⟨rfl, ⟨v', h1⟩, h2⟩
  rw [← hF]
  generalize PutsPost B w p F = PO at *
  have HW1 := Lib.hid hW1
  have HS1 := Lib.hid hst1
  have HK1 := Lib.hid hk1
  have HPT := Lib.hid hPT
  have HLP := Lib.hid hlp
  clear hW hP hPb hpc hF hst1 hW1 hk1 hPT hlp
  go_enter Try.func21, Try.ntmps21
  go_upto_region 1 with fail
  have hz1 : (w.alloc (.cells #[.slice A T c, .slice (some ⟨b, off, none⟩) G d] 32)).heap.size = w.heap.size + 1 := by simp
  have HZ1 := Lib.hid hz1
  clear hz1
  generalize w.alloc (.cells #[.slice A T c, .slice (some ⟨b, off, none⟩) G d] 32) = w1 at *
  have q0 : w1.cell? ⟨w.heap.size, 0, none⟩ = some (.slice A T c) := (blk_cell HK1.out 0).trans rfl
  have q1 : w1.cell? ⟨w.heap.size, 1, none⟩ = some (.slice (some ⟨b, off, none⟩) G d) := (blk_cell HK1.out 1).trans rfl
  have HP1 : Hid (Calls Try.prog 41 #[.pointer (some ⟨p, 0, none⟩), .int .u64 T, .int .i64 3] w1 fun e w' => e = .returned (.int .i64 0) ∧ ∃ v', IsW B w' p v' (L ++ bitsN T 3) ∧ Step B [p] [5] w1 w') := Lib.hid (put_ok B w1 p v L T 3 HW1.out (by omega) (by omega) (by omega))
  go_wp2_with fail
  refine HP1.out.mono ?_
  rintro e w2 ⟨rfl, v2, hW2, hS2⟩
  have hpb : w.heap.size ∉ [p] := by simp; omega
  have hk2 := hS2.blk HK1.out hpb (by decide)
  have q0 : w2.cell? ⟨w.heap.size, 0, none⟩ = some (.slice A T c) := (blk_cell hk2 0).trans rfl
  have q1 : w2.cell? ⟨w.heap.size, 1, none⟩ = some (.slice (some ⟨b, off, none⟩) G d) := (blk_cell hk2 1).trans rfl
  have HP2 : Hid (Calls Try.prog 41 #[.pointer (some ⟨p, 0, none⟩), .int .u64 G, .int .i64 15] w2 fun e w' => e = .returned (.int .i64 0) ∧ ∃ v', IsW B w' p v' (L ++ bitsN T 3 ++ bitsN G 15) ∧ Step B [p] [5] w2 w') := Lib.hid (put_ok B w2 p v2 (L ++ bitsN T 3) G 15 hW2 (by rw [List.length_append, bitsN_length]; omega) (by omega) (by omega))
  have HK2 := Lib.hid hk2
  have HS2 := Lib.hid (HS1.out.trans hS2)
  clear hW2 hS2 hk2 HW1 HS1 HK1 HP1
  go_wp2_with fail
  refine HP2.out.mono ?_
  rintro e w3 ⟨rfl, v3, hW3, hS3⟩
  have hk3 := hS3.blk HK2.out hpb (by decide)
  have q0 : w3.cell? ⟨w.heap.size, 0, none⟩ = some (.slice A T c) := (blk_cell hk3 0).trans rfl
  have HK3 := Lib.hid hk3
  have HS3 := Lib.hid (HS2.out.trans hS3)
  have HW3 := Lib.hid hW3
  have HIO := Lib.hid (cinorder_any w3 T (by omega))
  clear hW3 hS3 hk3 HS2 HK2 HP2 q1
  go_wp2_with fail
  refine HIO.out.mono ?_
  rintro e w4 ⟨rfl, hf4, hb4⟩
  have hst4 := step_of_below hb4
  have hk4 := hst4.blk HK3.out List.not_mem_nil List.not_mem_nil
  have q1 : w4.cell? ⟨w.heap.size, 1, none⟩ = some (.slice (some ⟨b, off, none⟩) G d) := (blk_cell hk4 1).trans rfl
  have hz3 : w.heap.size ≤ w3.heap.size := HS3.out.size
  have HS4 := Lib.hid (HS3.out.trans (hst4.mono (Nat.le_trans hB hz3) (by simp) (by simp)))
  have HW4 := Lib.hid (HW3.out.step hst4 List.not_mem_nil (fun _ _ => List.not_mem_nil) List.not_mem_nil List.not_mem_nil)
  have HF4 := Lib.hid hf4
  have HZ4 := Lib.hid hf4.lt
  clear hf4 hb4 hst4 hk4 HIO HK3 HS3 HW3
  generalize w3.heap.size = g at *
  go_wp2_with fail
  go_loopw [6, 7, 27] (fun s6 s7 iv' wx => ∃ (i : Nat) (f : Nat → Nat) (v' : Value) (K : List Nat), i ≤ G ∧ iv' = .int .i64 i ∧ IsW B wx p v' K ∧ FRow wx g g T T f ∧ Hid (K ++ putPicks ((List.range T).map f) (P.drop i) = F ∧ K.length ≤ 2000000 + 6 * i ∧ ∀ x, x < T → x ∈ (List.range T).map f) ∧ Step B [p] [5] w wx) (fun _ _ iv' _ => G - (intOf iv').toNat)
  case atStart =>
    refine ⟨0, fun j => j, v3, _, Nat.zero_le _, rfl, HW4.out, HF4.out, ⟨?_, ?_, fun x hx => ?_⟩, HS4.out⟩
    · rw [HFE.out, List.map_id', List.drop_zero]
      simp only [List.append_assoc]
    · rw [List.length_append, List.length_append, bitsN_length, bitsN_length]
      omega
    · rw [List.map_id']
      exact List.mem_range.2 hx
  case round =>
    clear HW4 HF4 HS4
    rename World => w5
    obtain ⟨i, f, v5, K, hi, rfl, hW5, hf5, hI, hS5⟩ := hrel
    by_cases e : i < G
    · have di : decide ((i : Int) < (G : Int)) = true := decide_eq_true (by omega)
      have hiI : (0 : Int) ≤ (i : Int) := by omega
      have hiG : (i : Int) < (G : Int) := by omega
      have hcell : w5.cell? ⟨b, off + i, none⟩ = some (.int .i64 (P.getD i 0 : Nat)) := (hS5.below.cell (p := ⟨b, off + i, none⟩) hbB).trans (HPC.out i e)
      obtain ⟨x, hx⟩ : ∃ x, x = P.getD i 0 := ⟨_, rfl⟩
      have hxm : x ∈ P := by
        rw [hx, List.getD_eq_getElem?_getD, List.getElem?_eq_getElem (by rw [HLP.out]; exact e)]
        exact List.getElem_mem _
      have hxT := HPT.out x hxm
      have hxo := hI.out.2.2 x hxT
      have hdr : P.drop i = x :: P.drop (i + 1) := by
        rw [List.drop_eq_getElem_cons (by rw [HLP.out]; exact e), hx, List.getD_eq_getElem?_getD, List.getElem?_eq_getElem (by rw [HLP.out]; exact e)]
        rfl
      rw [← hx] at hcell
      have HIX := Lib.hid (cindex_any w5 (some ⟨g, 0, none⟩) T T _ x hf5.ints hxo (by omega))
      have hpp := place_lt _ x hxo
      have hol : ((List.range T).map f).length = T := by simp
      obtain ⟨k, hk⟩ : ∃ k, k = placeOf ((List.range T).map f) x := ⟨_, rfl⟩
      rw [← hk] at HIX hpp
      rw [hol] at hpp
      have hkT := hpp.1
      have HMV := Lib.hid (cmtf_any g w5 g T T f k hf5 hkT (by omega))
      have HNX : Hid ((K ++ (List.replicate k 1 ++ [0])) ++ putPicks ((List.range T).map (moveR f k)) (P.drop (i + 1)) = F) := Lib.hid (by
        rw [← hI.out.1, hdr, putPicks, ← hk, moveR_list f T k hkT]
        simp)
      have HMM : Hid (∀ y, y < T → y ∈ (List.range T).map (moveR f k)) := Lib.hid fun y hy => by
        rw [moveR_list f T k hkT]
        exact mem_moveF (by rw [hol]; exact hkT) (hI.out.2.2 y hy)
      have hKl := hI.out.2.1
      have HKL := Lib.hid hKl
      have HW5 := Lib.hid hW5
      have HS5 := Lib.hid hS5
      have HF5 := Lib.hid hf5
      clear hpp hI hW5 hS5 hf5 hx hxm hxo hdr hk hol hKl hxT
      go_wp2_with fail
      refine HIX.out.mono ?_
      rintro e w6 ⟨rfl, rfl⟩
      clear HIX
      go_wp2_with fail
      refine HMV.out.mono ?_
      rintro e w7 ⟨rfl, hf7, hs7⟩
      have hgp : p ∉ [g] := by
        have := HZ4.out
        simp
        omega
      have hW7 := HW5.out.step hs7 hgp (fun k hk => by
        rw [List.mem_singleton]
        intro e
        obtain ⟨c1, f1, e1⟩ := Lib.ownsRow_kind HW5.out.row g (by rw [hk, e])
        obtain ⟨c2, f2, e2⟩ := Lib.ownsRow_kind HF5.out g rfl
        rw [e1] at e2
        simp at e2) List.not_mem_nil List.not_mem_nil
      have hS7 : Step B [p] [5] w w7 := HS5.out.after hs7 (by have := HZ4.out; omega) (fun j hj => .inr (by rw [List.mem_singleton.1 hj]; have := HZ4.out; omega)) (by simp)
      have hlen : K.length ≤ 1000000000000 := by have := HKL.out; omega
      have hk5 : k ≤ 5 := by omega
      have HPUT := Lib.hid fun (x n : Int) (hx : x = ((2 ^ (k + 1) - 2 : Nat) : Int)) (hn : n = ((k + 1 : Nat) : Int)) => place_put k hk5 B w7 p v5 K hW7 hlen x n hx hn
      have HEND : Hid (∀ w8 v8, IsW B w8 p v8 (K ++ (List.replicate k 1 ++ [0])) → Step B [p] [5] w7 w8 → ∃ (i' : Nat) (f' : Nat → Nat) (v' : Value) (K' : List Nat), i' ≤ G ∧ (.int .i64 (i + 1 : Nat) : Value) = .int .i64 i' ∧ IsW B w8 p v' K' ∧ FRow w8 g g T T f' ∧ Hid (K' ++ putPicks ((List.range T).map f') (P.drop i') = F ∧ K'.length ≤ 2000000 + 6 * i' ∧ ∀ x, x < T → x ∈ (List.range T).map f') ∧ Step B [p] [5] w w8) := Lib.hid fun w8 v8 h1 h2 =>
        ⟨i + 1, moveR f k, v8, _, by omega, rfl, h1, h2.row hf7 (fun j hj => by
          simp [Value.ownBlock] at hj
          have := HZ4.out
          simp
          omega) (by decide), ⟨HNX.out, by
            rw [List.length_append, List.length_append, List.length_replicate, List.length_singleton]
            have := HKL.out
            omega, HMM.out⟩, hS7.trans h2⟩
      clear hf7 hs7 hW7 hS7 hlen HMV HNX HMM HKL HW5 HS5 HF5
      have hcase : k = 0 ∨ k = 1 ∨ k = 2 ∨ k = 3 ∨ k = 4 ∨ k = 5 := by omega
      rcases hcase with rfl | rfl | rfl | rfl | rfl | rfl <;>
      · go_wp2_with fail
        refine (HPUT.out _ _ (by rfl) (by rfl)).mono ?_
        rintro e w8 ⟨rfl, v8, hW8, hS8⟩
        have HN := Lib.hid (HEND.out w8 v8 hW8 hS8)
        clear hW8 hS8 HEND HPUT
        go_wp2_with fail
        go_roundw
        case rel => exact HN.out
        case measure => simp [intOf]; omega
    · obtain rfl : i = G := by omega
      have di : decide ((i : Int) < (i : Int)) = false := decide_eq_false (by omega)
      have hfin := hI.out.1
      rw [List.drop_of_length_le (by rw [HLP.out]; exact Nat.le_refl _), putPicks, List.append_nil] at hfin
      rw [hfin] at hW5
      have HE := Lib.hid (HPO.out w5 v5 hW5 hS5)
      clear hW5 hf5 hI hS5 hfin HPO
      go_wp2_with fail
      (try simp only [Exit.inBlock, Exit.then])
      refine bodyPost_ret (results_none rfl _ _ _) rfl ?_
      exact HE.out

end Go.Proofs.Ytmgmgmbpldboiaa
