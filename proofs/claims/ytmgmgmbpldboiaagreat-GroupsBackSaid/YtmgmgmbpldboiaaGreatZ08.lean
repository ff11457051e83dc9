/- Ud Ue Uf: texts laid together, what is not used left out. -/
import Derived.Test.YtmgmgmbpldboiaaGreatZ07
import Derived.Test.YtmgmgmbpldboiaaGreatZ03
import Derived.Test.YtmgmgmbpldboiaaGreatZ05
namespace Go.Proofs.YtmgmgmbpldboiaaGreat
open Go.RowKit

set_option maxHeartbeats 1600000 in
set_option maxRecDepth 100000 in
theorem rmaylist_any (w : World) (A : Option Addr) (n c : Nat) (L : List Int) (m : Int) (hL : ZIn w A n L) (hn : n ≤ maxLen) :
    Calls Tryz.prog 35 #[.slice A n c, .int .i64 m] w fun e w' => e = .returned (.bool (decide (MayG L m))) ∧ w' = w := by
  unfold maxLen at hn
  have hlm := hL.1
  have HL := Lib.hid hL
  have HLM := Lib.hid hlm
  have HNO : Hid (∀ x ∈ L, (x < 0 ∨ m ≤ x) → decide (MayG L m) = false) := Lib.hid fun x hx h => decide_eq_false fun hm => by
    have := hm.2.2.2.2 x hx
    omega
  have HEND : Hid (¬ (3 ≤ m ∧ m ≤ 258 ∧ 1 ≤ n ∧ n ≤ 1638350) → decide (MayG L m) = false) := Lib.hid fun h => decide_eq_false fun hm => h ⟨hm.1, hm.2.1, by have := hm.2.2.1; omega, by have := hm.2.2.2.1; omega⟩
  have HYES : Hid ((∀ x ∈ L, 0 ≤ x ∧ x < m) → 3 ≤ m → m ≤ 258 → 1 ≤ n → n ≤ 1638350 → decide (MayG L m) = true) := Lib.hid fun h h1 h2 h3 h4 => decide_eq_true ⟨h1, h2, by omega, by omega, h⟩
  clear hL hlm
  generalize decide (MayG L m) = ans at *
  go_enter Tryz.func35, Tryz.ntmps35
  go_wp2_with fail
  go_loopw [5] (fun i wx => ∃ q : Nat, q ≤ n ∧ i = .int .i64 q ∧ Hid (∀ x ∈ L.take q, 0 ≤ x ∧ x < m) ∧ wx = w) (fun i _ => n - (intOf i).toNat)
  case atStart => exact ⟨0, Nat.zero_le _, rfl, by simp [Hid], rfl⟩
  case round =>
    obtain ⟨q, hq, rfl, hv, rfl⟩ := hrel
    by_cases e : q < n
    · have dq : decide ((q : Int) < (n : Int)) = true := decide_eq_true (by omega)
      have hqI : (0 : Int) ≤ (q : Int) := by omega
      have hqn : (q : Int) < (n : Int) := by omega
      obtain ⟨b, off, rfl, hc⟩ := HL.out.2 (by omega)
      have hcw := hc q e
      have htk := take_snoc_int L q (by rw [HLM.out]; exact e)
      have hmem := getD_mem_int L q (by rw [HLM.out]; exact e)
      obtain ⟨x, hx⟩ : ∃ x, x = L.getD q 0 := ⟨_, rfl⟩
      rw [← hx] at hcw htk hmem
      have HTK := Lib.hid htk
      have HM := Lib.hid hmem
      clear hc hx htk hmem
      by_cases e1 : x < 0
      · have d1 : decide (x < 0) = true := decide_eq_true e1
        have hans := HNO.out x HM.out (.inl e1)
        subst hans
        go_wp2_with fail
        go_ret
        exact ⟨rfl, rfl⟩
      · have d1 : decide (x < 0) = false := decide_eq_false e1
        by_cases e2 : m ≤ x
        · have d2 : decide (m ≤ x) = true := decide_eq_true e2
          have hans := HNO.out x HM.out (.inr e2)
          subst hans
          go_wp2_with fail
          go_ret
          exact ⟨rfl, rfl⟩
        · have d2 : decide (m ≤ x) = false := decide_eq_false e2
          have HV2 : Hid (∀ y ∈ L.take (q + 1), 0 ≤ y ∧ y < m) := Lib.hid (by
            rw [HTK.out]
            intro y hy
            rcases List.mem_append.1 hy with hy | hy
            · exact hv.out y hy
            · rw [List.mem_singleton.1 hy]
              omega)
          go_wp2_with fail
          go_roundw
          case rel => exact ⟨q + 1, by omega, by go_num, HV2, trivial⟩
          case measure => simp [intOf]; omega
    · obtain rfl : q = n := by omega
      have dq : decide ((q : Int) < (q : Int)) = false := decide_eq_false (by omega)
      have hv2 := hv.out
      rw [List.take_of_length_le (Nat.le_of_eq HLM.out)] at hv2
      have HV := Lib.hid hv2
      clear hv2 hv HNO
      by_cases h1 : 3 ≤ m
      · have d1 : decide (3 ≤ m) = true := decide_eq_true h1
        by_cases h2 : m ≤ 258
        · have d2 : decide (m ≤ 258) = true := decide_eq_true h2
          by_cases h3 : 1 ≤ q
          · have d3 : decide ((1 : Int) ≤ (q : Int)) = true := decide_eq_true (by omega)
            by_cases h4 : q ≤ 1638350
            · have d4 : decide ((q : Int) ≤ 1638350) = true := decide_eq_true (by omega)
              have hans := HYES.out HV.out h1 h2 h3 h4
              subst hans
              clear HYES HEND HV h4
              go_wp2_with fail
              go_ret
              exact ⟨rfl, rfl⟩
            · have d4 : decide ((q : Int) ≤ 1638350) = false := decide_eq_false (by omega)
              have hans := HEND.out (fun h => h4 h.2.2.2)
              subst hans
              clear HYES HEND HV h4
              go_wp2_with fail
              go_ret
              exact ⟨rfl, rfl⟩
          · have d3 : decide ((1 : Int) ≤ (q : Int)) = false := decide_eq_false (by omega)
            have hans := HEND.out (fun h => h3 h.2.2.1)
            subst hans
            go_wp2_with fail
            go_ret
            exact ⟨rfl, rfl⟩
        · have d2 : decide (m ≤ 258) = false := decide_eq_false h2
          have hans := HEND.out (fun h => h2 h.2.1)
          subst hans
          go_wp2_with fail
          go_ret
          exact ⟨rfl, rfl⟩
      · have d1 : decide (3 ≤ m) = false := decide_eq_false h1
        have hans := HEND.out (fun h => h1 h.1)
        subst hans
        go_wp2_with fail
        go_ret
        exact ⟨rfl, rfl⟩

theorem partG_length (L : List Nat) (k : Nat) : (partG L k).length = min 50 (L.length - 50 * k) := by
  unfold partG
  rw [List.length_take, List.length_drop]
set_option maxHeartbeats 1600000 in
set_option maxRecDepth 100000 in
theorem rpart_any (w : World) (A : Option Addr) (n c : Nat) (L : List Nat) (k : Nat) (hL : IntsIn w A n L) (hnc : n ≤ c) (hn : n ≤ 2000000) (hk : 50 * k < n) :
    Calls Tryz.prog 39 #[.slice A n c, .int .i64 k] w fun e w' => ∃ A2 c2, e = .returned (.slice A2 (partG L k).length c2) ∧ IntsIn w A2 (partG L k).length (partG L k) ∧ (partG L k).length ≤ c2 ∧ w' = w := by
  have hln := hL.1
  obtain ⟨m, hm⟩ : ∃ m, m = (partG L k).length := ⟨_, rfl⟩
  have hm2 : m = min 50 (n - 50 * k) := by rw [hm, partG_length, hln]
  obtain ⟨b, off, rfl, _⟩ := hL.2 (by omega)
  obtain ⟨lo, hlo⟩ : ∃ lo, lo = 50 * k := ⟨_, rfl⟩
  have hz1 : (50 : Int) * (k : Int) = (lo : Int) := by omega
  have hcut := IntsIn.cut (k := m) (a := lo) hL (by omega)
  have hp : (L.drop lo).take m = partG L k := by
    unfold partG
    rw [← hlo]
    by_cases e : m = 50
    · rw [e]
    · rw [List.take_of_length_le (by rw [List.length_drop]; omega), List.take_of_length_le (by rw [List.length_drop]; omega)]
  rw [hp, Option.map_some, Addr.add_lit] at hcut
  rw [← hm]
  have HC := Lib.hid hcut
  by_cases e : n < lo + 50
  · have d1 : decide ((n : Int) < (lo : Int) + 50) = true := decide_eq_true (by omega)
    have hm3 : (n : Int) - (lo : Int) = (m : Int) := by omega
    have hmn : n - lo = m := by omega
    have hloI : (0 : Int) ≤ (lo : Int) := by omega
    have hlon : (lo : Int) ≤ (n : Int) := by omega
    have hncI : (n : Int) ≤ (c : Int) := by omega
    clear hL hcut hp hm hm2 hlo hln
    go_enter Tryz.func39, Tryz.ntmps39
    go_wp2_with fail
    go_ret
    exact ⟨_, _, rfl, HC.out, by omega, rfl⟩
  · obtain ⟨hi, hhi⟩ : ∃ hi, hi = lo + 50 := ⟨_, rfl⟩
    have hzz : (lo : Int) + 50 = (hi : Int) := by omega
    have d1 : decide ((n : Int) < (hi : Int)) = false := decide_eq_false (by omega)
    have hm3 : (hi : Int) - (lo : Int) = (m : Int) := by omega
    have hmn : hi - lo = m := by omega
    have hloI : (0 : Int) ≤ (lo : Int) := by omega
    have hlohi : (lo : Int) ≤ (hi : Int) := by omega
    have hhic : (hi : Int) ≤ (c : Int) := by omega
    have HHI := Lib.hid hhi
    clear hL hcut hp hm hm2 hlo hln hhi
    go_enter Tryz.func39, Tryz.ntmps39
    go_wp2_with fail
    go_ret
    exact ⟨_, _, rfl, HC.out, by omega, rfl⟩

/-- A table's row by its place. -/
theorem mapC_get (C : Nat → List Nat) (T t : Nat) (h : t < T) : ((List.range T).map C).getD t [] = C t := by
  rw [List.getD_eq_getElem?_getD, List.getElem?_map, List.getElem?_range h]
  rfl
theorem gsum_le (c g : List Nat) (M : Nat) (h : ∀ x ∈ g, c.getD x 0 ≤ M) : gsum c g ≤ M * g.length := by
  unfold gsum
  have := sum_le M (g.map fun x => c.getD x 0) (fun y hy => by
    obtain ⟨x, hx, rfl⟩ := List.mem_map.1 hy
    exact h x hx)
  rw [List.length_map] at this
  exact this

set_option maxHeartbeats 3200000 in
set_option maxRecDepth 100000 in
theorem rpick_any (w : World) (g T n : Nat) (C : Nat → List Nat) (hT : TabR w g T C) (h1 : 1 ≤ T) (hT6 : T ≤ 6) (hn : n ≤ 258) (hC : ∀ t, t < T → (C t).length = n ∧ ∀ x ∈ C t, x ≤ 1000)
    (A : Option Addr) (m c : Nat) (G : List Nat) (hG : IntsIn w A m G) (hm : m ≤ 50) (hGn : ∀ x ∈ G, x < n) :
    Calls Tryz.prog 38 #[.slice (some ⟨g, 0, none⟩) T T, .slice A m c] w fun e w' => e = .returned (.int .i64 (pickG ((List.range T).map C) G : Nat)) ∧ ∃ d, w' = w.drewN d := by
  have hgl := hG.1
  obtain ⟨p, hp⟩ : ∃ p : Nat → Nat × Nat, p = pickN ((List.range T).map C) G := ⟨_, rfl⟩
  have hans : pickG ((List.range T).map C) G = (p T).1 := by
    unfold pickG
    rw [hp]
    simp
  rw [hans]
  have HNEXT : Hid (∀ t, t < T → p (t + 1) = if t = 0 ∨ gsum (C t) G < (p t).2 then (t, gsum (C t) G) else p t) := Lib.hid fun t ht => by
    rw [hp, pickN, mapC_get C T t ht]
  have HZ : Hid (p 0 = (0, 0)) := Lib.hid (by rw [hp]; rfl)
  have HB : Hid (∀ t, t ≤ T → (p t).2 ≤ 50000) := Lib.hid (by
    intro t ht
    induction t with
    | zero => rw [hp]; exact Nat.zero_le _
    | succ t ih =>
      rw [HNEXT.out t (by omega)]
      have h3 := gsum_le (C t) G 1000 (fun x hx => (hC t (by omega)).2 _ (by
        rw [List.getD_eq_getElem?_getD, List.getElem?_eq_getElem (by rw [(hC t (by omega)).1]; exact hGn x hx)]
        exact List.getElem_mem _))
      have h4 : 1000 * G.length ≤ 1000 * 50 := Nat.mul_le_mul_left _ (by omega)
      split
      · show gsum (C t) G ≤ 50000
        omega
      · exact ih (by omega))
  have HT := Lib.hid hT
  have HG := Lib.hid hG
  have HC := Lib.hid hC
  have HGN := Lib.hid hGn
  have HGL := Lib.hid hgl
  clear hT hG hC hGn hgl hp hans
  go_enter Tryz.func38, Tryz.ntmps38
  go_wp2_with fail
  go_loopw [5, 6, 7, 8, 9] (fun bv lv tv s8 s9 wx => ∃ (t b l : Nat), t ≤ T ∧ tv = .int .i64 t ∧ bv = .int .i64 b ∧ lv = .int .i64 l ∧ Hid (p t = (b, l)) ∧ ∃ d, wx = w.drewN d) (fun _ _ tv _ _ _ => T - (intOf tv).toNat)
  case atStart => exact ⟨0, 0, 0, Nat.zero_le _, rfl, rfl, rfl, HZ.out, 0, rfl⟩
  case round =>
    rename World => w1
    obtain ⟨t, b, l, ht, rfl, rfl, rfl, hpt, hd⟩ := hrel
    have HD := Lib.hid hd
    by_cases e : t < T
    · have dt : decide ((t : Int) < (T : Int)) = true := decide_eq_true (by omega)
      have htI : (0 : Int) ≤ (t : Int) := by omega
      have htT : (t : Int) < (T : Int) := by omega
      clear hd
      go_wp2_with fail
      go_loopw [8, 9] (fun sv iv' wx => ∃ (i s : Nat), i ≤ m ∧ iv' = .int .i64 i ∧ sv = .int .i64 s ∧ Hid (s = gsum (C t) (G.take i)) ∧ s ≤ 1000 * i ∧ ∃ d, wx = w.drewN d) (fun _ iv' _ => m - (intOf iv').toNat)
      case atStart => exact ⟨0, 0, Nat.zero_le _, rfl, rfl, rfl, Nat.zero_le _, HD.out⟩
      case round =>
        rename World => w2
        obtain ⟨i, s, hi, rfl, rfl, hs, hsb, hd2⟩ := hrel
        have HD2 := Lib.hid hd2
        by_cases e2 : i < m
        · have di : decide ((i : Int) < (m : Int)) = true := decide_eq_true (by omega)
          have hiI : (0 : Int) ≤ (i : Int) := by omega
          have him : (i : Int) < (m : Int) := by omega
          obtain ⟨A1, k1, hc1, hc2, hc3⟩ := HT.out t e
          obtain ⟨gb, go, rfl, hgc⟩ := HG.out.2 (by omega)
          have hx := hgc i e2
          have hxn : G.getD i 0 < n := HGN.out _ (by
            rw [List.getD_eq_getElem?_getD, List.getElem?_eq_getElem (by rw [HGL.out]; exact e2)]
            exact List.getElem_mem _)
          have hsn : gsum (C t) (G.take (i + 1)) = gsum (C t) (G.take i) + (C t).getD (G.getD i 0) 0 := by rw [drop_one (by rw [HGL.out]; exact e2), gsum_snoc]
          generalize G.getD i 0 = x at *
          have hCt := HC.out t e
          obtain ⟨cb, co, rfl, hcc⟩ := hc2.2 (by omega)
          have hy := hcc x (by omega)
          have hyb : (C t).getD x 0 ≤ 1000 := hCt.2 _ (by
            rw [List.getD_eq_getElem?_getD, List.getElem?_eq_getElem (by rw [hCt.1]; exact hxn)]
            exact List.getElem_mem _)
          generalize (C t).getD x 0 = y at *
          obtain ⟨k, hk⟩ : ∃ k, k = (C t).length := ⟨_, rfl⟩
          rw [← hk] at hc1
          have q0 : w2.cell? ⟨g, t, none⟩ = some (.slice (some ⟨cb, co, none⟩) k k1) := by obtain ⟨d, rfl⟩ := hd2; exact hc1
          have q1 : w2.cell? ⟨gb, go + i, none⟩ = some (.int .i64 x) := by obtain ⟨d, rfl⟩ := hd2; exact hx
          have q2 : w2.cell? ⟨cb, co + x, none⟩ = some (.int .i64 y) := by obtain ⟨d, rfl⟩ := hd2; exact hy
          obtain ⟨s2, hs2⟩ : ∃ s2 : Nat, s2 = s + y := ⟨_, rfl⟩
          have hsz : (s : Int) + (y : Int) = (s2 : Int) := by omega
          have hs2b : s2 ≤ 1000 * (i + 1) := by omega
          have HS2 : Hid (s2 = gsum (C t) (G.take (i + 1))) := Lib.hid (by rw [hsn, hs2, hs.out])
          have hxI : (0 : Int) ≤ (x : Int) := by omega
          have hxk : (x : Int) < (k : Int) := by omega
          have HSB := Lib.hid hs2b
          have hs2c : s2 ≤ 60000 := by omega
          clear hc1 hc2 hc3 hgc hx hsn hcc hy hs2 hd2 hk hCt hs2b
          go_upto_region 10 with fail
          go_quiet (fail)
          go_wp2_with fail
          go_roundw
          case rel =>
            obtain ⟨d, hd9⟩ := HD2.out
            exact ⟨i + 1, s2, by omega, by go_num, rfl, HS2, HSB.out, d + nq, by rw [hd9]; simp⟩
          case measure => simp [intOf]; omega
        · obtain rfl : i = m := by omega
          have di : decide ((i : Int) < (i : Int)) = false := decide_eq_false (by omega)
          have hs2 := hs.out
          rw [List.take_of_length_le (Nat.le_of_eq HGL.out)] at hs2
          have hnx := HNEXT.out t e
          rw [hpt.out, ← hs2] at hnx
          dsimp only at hnx
          have HNX := Lib.hid hnx
          have hlb : l ≤ 50000 := by
            have := HB.out t ht
            rw [hpt.out] at this
            exact this
          clear hs hs2 hnx hd2
          by_cases h0 : t = 0
          · have d0 : ((t : Int) == 0) = true := by rw [h0]; rfl
            have HP : Hid (p (t + 1) = (t, s)) := Lib.hid (by rw [HNX.out, if_pos (.inl h0)])
            have H0 := Lib.hid h0
            clear h0 HNX
            go_wp2_with fail
            go_roundw
            case rel => exact ⟨t + 1, t, s, by omega, by go_num, rfl, rfl, HP, HD2.out⟩
            case measure => simp [intOf]; omega
          · have d0 : ((t : Int) == 0) = false := by rw [beq_eq_false_iff_ne]; omega
            by_cases h3 : s < l
            · have d3 : decide ((s : Int) < (l : Int)) = true := decide_eq_true (by omega)
              have HP : Hid (p (t + 1) = (t, s)) := Lib.hid (by rw [HNX.out, if_pos (.inr h3)])
              clear HNX
              go_wp2_with fail
              go_roundw
              case rel => exact ⟨t + 1, t, s, by omega, by go_num, rfl, rfl, HP, HD2.out⟩
              case measure => simp [intOf]; omega
            · have d3 : decide ((s : Int) < (l : Int)) = false := decide_eq_false (by omega)
              have HP : Hid (p (t + 1) = (b, l)) := Lib.hid (by rw [HNX.out, if_neg (by omega)])
              clear HNX
              go_wp2_with fail
              go_roundw
              case rel => exact ⟨t + 1, b, l, by omega, by go_num, rfl, rfl, HP, HD2.out⟩
              case measure => simp [intOf]; omega
    · obtain rfl : t = T := by omega
      have dt : decide ((t : Int) < (t : Int)) = false := decide_eq_false (by omega)
      clear hd
      go_wp2_with fail
      go_ret
      exact ⟨by rw [hpt.out]; rfl, HD.out⟩

end Go.Proofs.YtmgmgmbpldboiaaGreat
namespace Go.Proofs.YtmgmgmbpldboiaaGreat
open Go.RowKit

set_option maxHeartbeats 3200000 in
set_option maxRecDepth 100000 in
theorem rcounts_any (w : World) (A : Option Addr) (m c : Nat) (L : List Nat) (hL : IntsIn w A m L) (hm : m ≤ 2000000) (B : Option Addr) (g d : Nat) (P : List Nat) (hP : IntsIn w B g P) (hg : m ≤ 50 * g)
    (t n : Nat) (hn : n ≤ 258) (hLn : ∀ x ∈ L, x < n) :
    Calls Tryz.prog 41 #[.slice A m c, .slice B g d, .int .i64 t, .int .i64 n] w fun e w' => e = .returned (.slice (some ⟨w.heap.size, 0, none⟩) n n) ∧ FRow w' w.heap.size w.heap.size n n (countF L P t) ∧ Below w.heap.size w w' := by
  have hlm := hL.1
  have hmk := make_noughts w n (by omega)
  have HM := Lib.hid (made_noughts w w.heap.size n (Nat.le_refl _) (by omega))
  have HB0 := Lib.hid ((Below.refl w.heap.size w).alloc (Nat.le_refl _) (.cells (madeCells #[.int .i64 0] n) 3))
  have HL := Lib.hid hL
  have HP := Lib.hid hP
  have HLN := Lib.hid hLn
  have HLM := Lib.hid hlm
  clear hL hP hLn hlm
  go_enter Tryz.func41, Tryz.ntmps41
  go_wp2_with fail
  go_loopw [10] (fun iv' wx => ∃ i : Nat, i ≤ m ∧ iv' = .int .i64 i ∧ FRow wx w.heap.size w.heap.size n n (fun s => countQ L P t s i) ∧ Below w.heap.size w wx) (fun iv' _ => m - (intOf iv').toNat)
  case atStart => exact ⟨0, Nat.zero_le _, rfl, HM.out, HB0.out⟩
  case round =>
    clear HM HB0 hmk
    obtain ⟨i, hi, rfl, hf, hb⟩ := hrel
    by_cases e : i < m
    · have di : decide ((i : Int) < (m : Int)) = true := decide_eq_true (by omega)
      have hiI : (0 : Int) ≤ (i : Int) := by omega
      have him : (i : Int) < (m : Int) := by omega
      obtain ⟨lb, lo, rfl, hlc⟩ := HL.out.2 (by omega)
      obtain ⟨pb, po, rfl, hpc⟩ := HP.out.2 (by omega)
      obtain ⟨k, hk⟩ : ∃ k, k = i / 50 := ⟨_, rfl⟩
      have hkz : (i : Int) / 50 = (k : Int) := by omega
      have hkg : k < g := by omega
      have hkI : (0 : Int) ≤ (k : Int) := by omega
      have hkgI : (k : Int) < (g : Int) := by omega
      have c1 := (hb.cell (p := ⟨pb, po + k, none⟩) (World.block_lt_of_cell? w _ (hpc k hkg))).trans (hpc k hkg)
      have c2 := (hb.cell (p := ⟨lb, lo + i, none⟩) (World.block_lt_of_cell? w _ (hlc i e))).trans (hlc i e)
      have hcn := fun s => countQ_next L P t s i
      have hxn : L.getD i 0 < n := HLN.out _ (by
        rw [List.getD_eq_getElem?_getD, List.getElem?_eq_getElem (by rw [HLM.out]; exact e)]
        exact List.getElem_mem _)
      rw [← hk] at hcn
      obtain ⟨x, hx⟩ : ∃ x, x = L.getD i 0 := ⟨_, rfl⟩
      obtain ⟨y, hy⟩ : ∃ y, y = P.getD k 0 := ⟨_, rfl⟩
      rw [← hx] at c2 hcn hxn
      rw [← hy] at c1 hcn
      have HCN := Lib.hid hcn
      by_cases e2 : y = t
      · subst e2
        have d2 : ((y : Int) == (y : Int)) = true := beq_self_eq_true _
        have c3 := hf.cell x hxn
        have f3 := hf.frozen x
        have hle := countQ_le L P y x i
        obtain ⟨v, hv⟩ : ∃ v, v = countQ L P y x i := ⟨_, rfl⟩
        rw [← hv] at c3 hle
        obtain ⟨v1, hv1⟩ : ∃ v1, v1 = v + 1 := ⟨_, rfl⟩
        have hvz : (v : Int) + 1 = (v1 : Int) := by omega
        have hs := hf.set x v1
        have hfn : (fun s => if s = x then v1 else countQ L P y s i) = fun s => countQ L P y s (i + 1) := by
          funext s
          rw [HCN.out s]
          by_cases es : s = x
          · rw [if_pos es, if_pos ⟨rfl, es.symm⟩, es, ← hv, hv1]
          · rw [if_neg es, if_neg (fun h => es h.2.symm), Nat.add_zero]
        rw [hfn] at hs
        have HS := Lib.hid hs
        have HBS := Lib.hid (hb.setCell (p := ⟨w.heap.size, x, none⟩) (Nat.le_refl _) (.int .i64 (v1 : Nat)))
        have hxI : (0 : Int) ≤ (x : Int) := by omega
        have hxnI : (x : Int) < (n : Int) := by omega
        clear hf hb hlc hpc hcn hx hy hv hv1 hs hfn hk
        go_wp2_with fail
        go_roundw
        case rel => exact ⟨i + 1, by omega, by go_num, HS.out, HBS.out⟩
        case measure => simp [intOf]; omega
      · have d2 : ((y : Int) == (t : Int)) = false := by rw [beq_eq_false_iff_ne]; omega
        have hfn : (fun s => countQ L P t s i) = fun s => countQ L P t s (i + 1) := by
          funext s
          rw [HCN.out s, if_neg (fun h => e2 h.1), Nat.add_zero]
        rw [hfn] at hf
        have HS := Lib.hid hf
        have HBS := Lib.hid hb
        clear hf hb hlc hpc hcn hx hy hfn hk
        go_wp2_with fail
        go_roundw
        case rel => exact ⟨i + 1, by omega, by go_num, HS.out, HBS.out⟩
        case measure => simp [intOf]; omega
    · obtain rfl : i = m := by omega
      have di : decide ((i : Int) < (i : Int)) = false := decide_eq_false (by omega)
      have hfn : (fun s => countQ L P t s i) = countF L P t := by
        funext s
        unfold countF
        rw [HLM.out]
      rw [hfn] at hf
      have HS := Lib.hid hf
      have HBS := Lib.hid hb
      clear hf hb hfn
      go_wp2_with fail
      go_ret
      exact ⟨rfl, HS.out, HBS.out⟩

end Go.Proofs.YtmgmgmbpldboiaaGreat
namespace Go.Proofs.YtmgmgmbpldboiaaGreat
open Go.RowKit

/-- A slice of slices of ints that is read. -/
def TabZ (w : World) (A : Option Addr) (n : Nat) (T : List (List Int)) : Prop :=
  T.length = n ∧ (0 < n → ∃ b off, A = some ⟨b, off, none⟩ ∧ ∀ i, i < n → ∃ A2 c2, w.cell? ⟨b, off + i, none⟩ = some (.slice A2 (T.getD i []).length c2) ∧ ZIn w A2 (T.getD i []).length (T.getD i []) ∧ (T.getD i []).length ≤ c2 ∧ (T.getD i []).length ≤ maxLen)
theorem TabZ.below {w w' : World} {A : Option Addr} {n : Nat} {T : List (List Int)} (h : TabZ w A n T) (hb : Below w.heap.size w w') : TabZ w' A n T := by
  refine ⟨h.1, fun hn => ?_⟩
  obtain ⟨b, off, rfl, hc⟩ := h.2 hn
  refine ⟨b, off, rfl, fun i hi => ?_⟩
  obtain ⟨A2, c2, h1, h2, h3, h4⟩ := hc i hi
  exact ⟨A2, c2, (hb.cell (p := ⟨b, off + i, none⟩) (World.block_lt_of_cell? w _ h1)).trans h1, h2.below hb, h3, h4⟩
/-- A plan that is read. -/
def PlanIn (w : World) (v : Value) (T : List (List Int)) (P : List Int) : Prop :=
  ∃ A n c B m d, v = .agg #[.slice A n c, .slice B m d] ∧ TabZ w A n T ∧ n ≤ c ∧ n ≤ maxLen ∧ ZIn w B m P ∧ m ≤ d ∧ m ≤ maxLen
theorem PlanIn.below {w w' : World} {v : Value} {T : List (List Int)} {P : List Int} (h : PlanIn w v T P) (hb : Below w.heap.size w w') : PlanIn w' v T P := by
  obtain ⟨A, n, c, B, m, d, h0, h1, h2, h3, h4, h5⟩ := h
  exact ⟨A, n, c, B, m, d, h0, h1.below hb, h2, h3, h4.below hb, h5⟩
/-- A plan is answered. -/
def PlanPost (w : World) (ans : List (List Int) × List Int × Nat) (e : Ending) (w' : World) : Prop :=
  ∃ v, e = .returned (.tuple #[v, .int .i64 ans.2.2]) ∧ PlanIn w' v ans.1 ans.2.1 ∧ Below w.heap.size w w'
theorem plan_none (w : World) : PlanIn w (.agg #[.slice none 0 0, .slice none 0 0]) [] [] :=
  ⟨none, 0, 0, none, 0, 0, rfl, ⟨rfl, fun h => absurd h (Nat.lt_irrefl _)⟩, Nat.le_refl _, by unfold maxLen; omega, ⟨rfl, fun h => absurd h (Nat.lt_irrefl _)⟩, Nat.le_refl _, by unfold maxLen; omega⟩
/-- Numbers as ints. -/
def zL (l : List Nat) : List Int := l.map fun (x : Nat) => (x : Int)
def natL (L : List Int) : List Nat := L.map Int.toNat
noncomputable def chooseAns (L : List Int) (m : Int) : List (List Int) × List Int × Nat :=
  if MayG L m then (((roundsG (natL L) m.toNat (tablesN L.length) 4).1.map zL), zL (roundsG (natL L) m.toNat (tablesN L.length) 4).2, 0) else ([], [], 2)

set_option maxHeartbeats 3200000 in
set_option maxRecDepth 100000 in
theorem rchoose_out (w : World) (A : Option Addr) (n c : Nat) (L : List Int) (m : Int) (hL : ZIn w A n L) (hn : n ≤ maxLen) (h : ¬ MayG L m) :
    Calls Tryz.prog 11 #[.slice A n c, .int .i64 m] w (PlanPost w (chooseAns L m)) := by
  have hans : chooseAns L m = ([], [], 2) := if_neg h
  rw [hans]
  have HM := Lib.hid fun (w1 : World) (hb : ZIn w1 A n L) => rmaylist_any w1 A n c L m hb hn
  rw [show decide (MayG L m) = false from decide_eq_false h] at HM
  have HL := Lib.hid (hL.below (w' := w.alloc (.cells #[.slice none 0 0, .slice none 0 0] 26)) ((Below.refl _ _).alloc (Nat.le_refl _) _))
  clear hL h hans
  go_enter Tryz.func11, Tryz.ntmps11
  go_wp2_with fail
  refine (HM.out _ HL.out).mono ?_
  rintro e w' ⟨rfl, rfl⟩
  go_wp2_with fail
  have q0 : (w.alloc (.cells #[.slice none 0 0, .slice none 0 0] 26)).cell? ⟨w.heap.size, 0, none⟩ = some (.slice none 0 0) := (blk_cell (blk_new w _ _) 0).trans rfl
  have q1 : (w.alloc (.cells #[.slice none 0 0, .slice none 0 0] 26)).cell? ⟨w.heap.size, 1, none⟩ = some (.slice none 0 0) := (blk_cell (blk_new w _ _) 1).trans rfl
  refine bodyPost_ret (v := .tuple #[.agg #[.slice none 0 0, .slice none 0 0], .int .i64 2]) ?_ rfl ⟨_, rfl, plan_none _, (Below.refl _ _).alloc (Nat.le_refl _) _⟩
  simp [results, Tryz.results11, go_sem, q0, q1]

/-- While one row of a table grows: the row itself, and the others as they were. -/
structure Grows (w w2 wx : World) (B g n t s : Nat) (F : Nat → Value) (x : List Nat) : Prop where
  row : ∃ A cap, wx.ownsRow w2.heap.size 3 1 (.slice A s cap) s (x.map iv) ∧ wx.ownsRow B 22 1 (.slice (some ⟨g, 0, none⟩) n n) n ((List.range n).map fun j => if j = t then .slice A s cap else F j)
  keep : ∀ k, k < w2.heap.size → k ≠ g → wx.heap[k]? = w2.heap[k]?
  below : Below w.heap.size w wx
  size : w2.heap.size ≤ wx.heap.size

set_option maxRecDepth 100000 in
theorem grows_end {w w2 wx : World} {B g n t s : Nat} {F : Nat → Value} {C : Nat → List Nat} {x : List Nat} (hB : B ≤ w2.heap.size)
    (hF : ∀ j, j < n → (∃ A k, F j = .slice A (C j).length k ∧ (C j).length ≤ k) ∧ w2.ownsRow B 3 1 (F j) (C j).length ((C j).map iv) ∧ ∀ b, (F j).ownBlock = some b → b < w2.heap.size ∧ b ≠ g)
    (h : Grows w w2 wx B g n t s F x) (hx : x.length = s) : TabW wx B g n fun j => if j = t then x else C j := by
  obtain ⟨A, cap, h1, h2⟩ := h.row
  refine ⟨_, h2, fun j hj => ?_⟩
  by_cases e : j = t
  · obtain ⟨A3, c3, e3, hc3, _⟩ := own_slice h1
    simp only [Value.slice.injEq] at e3
    obtain ⟨rfl, _, rfl⟩ := e3
    refine ⟨A, cap, ?_, ?_, ?_⟩
    · simp only [if_pos e, hx]
    · simp only [if_pos e]
      omega
    · simp only [if_pos e, hx]
      exact World.ownsRow.mono h1 hB
  · obtain ⟨⟨A2, k2, a, b⟩, c, d⟩ := hF j hj
    refine ⟨A2, k2, ?_, ?_, ?_⟩
    · simp only [if_neg e]
      exact a
    · simp only [if_neg e]
      exact b
    · simp only [if_neg e]
      refine ⟨c.1, ?_⟩
      rcases c.2 with h3 | ⟨g3, cap3, cur, hv, hg, hh, rest⟩
      · exact .inl h3
      · have h5 := d g3 (by rw [hv]; rfl)
        exact .inr ⟨g3, cap3, cur, hv, hg, (h.keep g3 h5.1 h5.2).trans hh, rest⟩

set_option maxRecDepth 100000 in
theorem grows_step {w w2 wx : World} {B g n t s : Nat} {F : Nat → Value} {x : List Nat} (hB : w.heap.size ≤ B) (hw2 : w.heap.size ≤ w2.heap.size) (h : Grows w w2 wx B g n t s F x) (ht : t < n) (hs : s ≤ 1000) (c : Nat) :
    ∃ A cap A3 cap3 w3, wx.cell? ⟨g, t, none⟩ = some (.slice A s cap) ∧ (Builtin.append_ #[22, 22] 22 #[.slice A s cap, .slice (some ⟨wx.heap.size, 0, none⟩) 1 1]).run Tryz.prog (wx.alloc (.cells #[.int .i64 c] 3)) = .ok (.slice A3 (s + 1) cap3) w3 ∧
      (∃ u, w3.cell? ⟨g, t, none⟩ = some u) ∧ w3.frozen? ⟨g, t, none⟩ = false ∧ Grows w w2 (w3.setCell ⟨g, t, none⟩ (.slice A3 (s + 1 : Nat) cap3)) B g n t (s + 1) F (x ++ [c]) := by
  obtain ⟨A, cap, h1, h2⟩ := h.row
  obtain ⟨i3, h3, hz0, hz1, hz2⟩ := info_parts Tryz.info3
  obtain ⟨v2, w3, hr, ho, hg, _, hat⟩ := run_append_own_at (P := Tryz.prog) (wx.alloc (.cells #[.int .i64 c] 3)) w2.heap.size 22 22 3 i3 (.int .i64 0) 1 8 Tryz.underlying22 h3 hz0 hz1 hz2 rfl (by decide) _ _ _ (h1.alloc _) ⟨wx.heap.size, 0, none⟩ 1 1 [iv c] rfl (cell_one wx (iv c) 3)
    (fun u hu => by rw [List.mem_singleton.1 hu]; rfl) (by unfold maxLen; omega) (by omega) (by have := h.size; simp; omega)
  obtain ⟨A3, cap3, rfl, _, _, _⟩ := own_slice ho
  have hlt := World.ownsRow.lt h2 g rfl
  have hne : (Value.slice A s cap).ownBlock ≠ some g := by
    intro e
    obtain ⟨c1, f1, e1⟩ := Lib.ownsRow_kind h1 g e
    obtain ⟨c2, f2, e2⟩ := Lib.ownsRow_kind h2 g rfl
    rw [e2] at e1
    simp at e1
  have h2' : w3.ownsRow B 22 1 (.slice (some ⟨g, 0, none⟩) n n) n ((List.range n).map fun j => if j = t then .slice A s cap else F j) := World.ownsRow.kept (h2.alloc _) hg (.inr (fun e => hne e.symm))
  have hcell := World.ownsRow.cellAt h2 t (by omega)
  have hcell3 := World.ownsRow.cellAt h2' t (by omega)
  rw [List.getElem?_map, List.getElem?_range ht] at hcell hcell3
  simp only [Option.map_some, if_true] at hcell hcell3
  have hst := World.ownsRow.stored h2' t (.slice A3 (s + 1 : Nat) cap3)
  have hset : ((List.range n).map fun j => if j = t then (.slice A s cap) else F j).set t (.slice A3 (s + 1 : Nat) cap3) = (List.range n).map fun j => if j = t then (.slice A3 (s + 1 : Nat) cap3) else F j := by
    apply List.ext_getElem?
    intro j
    rw [List.getElem?_set]
    by_cases e : t = j
    · subst e
      simp [ht]
    · have e' : ¬ j = t := fun k => e k.symm
      rw [if_neg e, List.getElem?_map, List.getElem?_map]
      by_cases hj : j < n
      · rw [List.getElem?_range hj]
        simp [e']
      · rw [List.getElem?_eq_none (by rw [List.length_range]; omega)]
        rfl
  rw [hset] at hst
  have hrow : (w3.setCell ⟨g, t, none⟩ (.slice A3 (s + 1 : Nat) cap3)).ownsRow w2.heap.size 3 1 (.slice A3 (s + 1) cap3) (s + 1) ((x ++ [c]).map iv) := by
    have ho2 := ho
    rw [show x.map iv ++ [iv c] = (x ++ [c]).map iv by simp] at ho2
    refine ho2.kept hst.2 (.inr fun e => ?_)
    obtain ⟨c1, f1, e1⟩ := Lib.ownsRow_kind ho g e
    obtain ⟨c2, f2, e2⟩ := Lib.ownsRow_kind h2' g rfl
    rw [e2] at e1
    simp at e1
  have hz := h.size
  have hgs : (wx.alloc (.cells #[.int .i64 c] 3)).heap.size ≤ w3.heap.size := hg.size
  refine ⟨A, cap, A3, cap3, w3, hcell, hr, ⟨_, hcell3⟩, World.ownsRow.frozenAt h2' t, ⟨⟨A3, cap3, hrow, hst.1⟩, ?_, ?_, ?_⟩⟩
  · intro k hk hkg
    rw [Below.heap_setCell w3 ⟨g, t, none⟩ _ k hkg]
    rw [hg.block k (by simp; omega) (by
      intro e
      have := (World.ownsRow.lt h1 k e.symm).1
      omega)]
    exact (Below.heap_alloc wx _ k (by omega)).trans (h.keep k hk hkg)
  · exact ((h.below.alloc h.below.size _).grown hg (by have := h.below.size; simp; omega) (fun k hk => by
      have := (World.ownsRow.lt h1 k hk).1
      omega)).setCell (p := ⟨g, t, none⟩) (by have := hlt.1; show w.heap.size ≤ g; omega) _
  · simp at hgs
    show w2.heap.size ≤ (w3.setCell _ _).heap.size
    simp
    omega

end Go.Proofs.YtmgmgmbpldboiaaGreat
