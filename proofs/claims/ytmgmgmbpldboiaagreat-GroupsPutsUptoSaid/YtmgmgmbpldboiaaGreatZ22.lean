/- Mh Mi Mj: texts laid together, what is not used left out. -/
import Derived.Test.YtmgmgmbpldboiaaGreatZ21
namespace Go.Proofs.YtmgmgmbpldboiaaGreat
open Go.RowKit

set_option maxRecDepth 100000 in
theorem bits_join (s T : ByteArray) (bl : List Nat) (h : Bit01 bl) (hT : T = ⟨(pack bl).toArray⟩) : ∃ Z, bitsB (s ++ T).data.toList = bitsB s.data.toList ++ bl ++ Z ∧ Bit01 Z := by
  have hp := bitsB_pack bl h
  refine ⟨List.replicate (8 * ((bl.length + 7) / 8) - bl.length) 0, ?_, ?_⟩
  · have e : (s ++ T).data.toList = s.data.toList ++ pack bl := by
      rw [hT]
      simp
    rw [e, bitsB_append, hp, List.append_assoc]
  · intro b hb
    rw [(List.mem_replicate.1 hb).2]
    omega
theorem nl_zL (l : List Nat) : nl (zL l) = l := by
  unfold nl zL
  rw [List.map_map]
  conv => rhs; rw [← List.map_id l]
  apply List.map_congr_left
  intro x _
  show ((x : Nat) : Int).toNat = x
  omega
theorem zL_nl {L : List Int} (h : ∀ x ∈ L, 0 ≤ x) : zL (nl L) = L := by
  unfold nl zL
  rw [List.map_map]
  conv => rhs; rw [← List.map_id L]
  apply List.map_congr_left
  intro x hx
  have := h x hx
  show ((x.toNat : Nat) : Int) = x
  omega
theorem take_one_show {l : List Nat} (h : LenOk (zL l)) (pre rest : List Nat) : takeAns (pre ++ (showD l ++ rest)) (pre.length : Nat) (l.length : Nat) = (l, pre.length + (showD l).length, 0) := by
  have h1 := nl_in (lenOk_dOk h)
  rw [nl_zL] at h1
  have h2 := h.1
  have h3 := h.2.1
  rw [zL_length] at h2 h3
  have := take_show (l := l) h2 h3 h1 pre [] rest (fun bs n p => rfl)
  rw [List.length_nil, Nat.add_zero, List.nil_append] at this
  unfold showD
  rw [List.append_assoc]
  rw [showD] at this
  exact this
set_option maxRecDepth 100000 in
theorem takeT_back {n : Nat} : ∀ (Ts : List (List Nat)) (pre rest : List Nat) (acc : List (List Nat)), (∀ t ∈ Ts, t.length = n ∧ LenOk (zL t)) →
    takeT (pre ++ (Ts.flatMap showD ++ rest)) n Ts.length pre.length acc = (acc ++ Ts, pre.length + (Ts.flatMap showD).length, 0)
  | [], pre, rest, acc, _ => by simp [takeT]
  | t :: Ts, pre, rest, acc, h => by
    have ht := h t (List.mem_cons_self ..)
    have e : pre ++ ((t :: Ts).flatMap showD ++ rest) = pre ++ (showD t ++ (Ts.flatMap showD ++ rest)) := by
      rw [List.flatMap_cons, List.append_assoc]
    have h1 := take_one_show ht.2 pre (Ts.flatMap showD ++ rest)
    rw [ht.1] at h1
    rw [List.length_cons, takeT_more, e, h1]
    show (if 0 = 0 then (if LenOk (zL t) then _ else _) else _) = _
    rw [if_pos rfl, if_pos ht.2]
    have e2 : pre ++ (showD t ++ (Ts.flatMap showD ++ rest)) = (pre ++ showD t) ++ (Ts.flatMap showD ++ rest) := by rw [List.append_assoc]
    have e3 : pre.length + (showD t).length = (pre ++ showD t).length := by rw [List.length_append]
    show takeT _ n Ts.length (pre.length + (showD t).length) (acc ++ [t]) = _
    rw [e2, e3, takeT_back Ts (pre ++ showD t) rest (acc ++ [t]) fun u hu => h u (List.mem_cons_of_mem _ hu)]
    rw [List.flatMap_cons, List.length_append, List.length_append, List.append_assoc]
    simp [Nat.add_assoc]
theorem front_val {x n : Nat} (h : x < 2 ^ n) (rest : List Nat) : val ((bitsN x n ++ rest).take n) = x := by
  rw [List.take_left' (bitsN_length n x), val_bitsN, Nat.mod_eq_of_lt h]
set_option maxRecDepth 100000 in
/-- A plan that was told is read again. -/
theorem takes_back {T : List (List Int)} {P L : List Int} {m : Int} (hg : GoodPlan T P L m) (hM : MayG L m) (B Z : List Nat) : takeG (B ++ planB (T.map nl) (nl P) ++ Z) (B.length : Nat) m = (T, P, B.length + (planB (T.map nl) (nl P)).length, 0) := by
  obtain ⟨⟨hT2, hT6, hP1, hP2, hTs, hPs, hn3⟩, hPl, hfull⟩ := hg
  have hm3 := hM.1
  have hm258 := hM.2.1
  obtain ⟨Q, hQ⟩ : ∃ Q, Q = putPicks [0, 1, 2, 3, 4, 5] (nl P) := ⟨_, rfl⟩
  obtain ⟨S, hS⟩ : ∃ S, S = (T.map nl).flatMap showD := ⟨_, rfl⟩
  have hplan : planB (T.map nl) (nl P) = bitsN T.length 3 ++ (bitsN P.length 15 ++ (Q ++ S)) := by
    unfold planB
    rw [List.length_map, nl_length, ← hQ, ← hS, List.append_assoc, List.append_assoc]
  have hbits : B ++ planB (T.map nl) (nl P) ++ Z = B ++ (bitsN T.length 3 ++ (bitsN P.length 15 ++ (Q ++ (S ++ Z)))) := by
    rw [hplan]
    simp only [List.append_assoc]
  have hlen : (planB (T.map nl) (nl P)).length = 18 + Q.length + S.length := by
    rw [hplan, List.length_append, List.length_append, List.length_append, bitsN_length, bitsN_length]
    omega
  rw [hlen, hbits]
  obtain ⟨W, hW⟩ : ∃ W, W = B ++ (bitsN T.length 3 ++ (bitsN P.length 15 ++ (Q ++ (S ++ Z)))) := ⟨_, rfl⟩
  have hWl : W.length = B.length + 18 + Q.length + S.length + Z.length := by
    rw [hW]
    simp only [List.length_append, bitsN_length]
    omega
  have h1 : val ((W.drop B.length).take 3) = T.length := by
    rw [hW, List.drop_left]
    exact front_val (by omega) _
  have h15 : P.length < 2 ^ 15 := by
    have h : (2 : Nat) ^ 15 = 32768 := by decide
    omega
  have h2 : val ((W.drop (B.length + 3)).take 15) = P.length := by
    rw [hW, ← List.drop_drop, List.drop_left, List.drop_left' (bitsN_length _ _)]
    exact front_val h15 _
  have h3 : takePicks W T.length P.length [0, 1, 2, 3, 4, 5] (B.length + 18) [] = (nl P, B.length + 18 + Q.length, 0) := by
    have hlow := low_six hT6
    have hx : ∀ x ∈ nl P, x < T.length := by
      intro x hx
      obtain ⟨y, hy, rfl⟩ := List.mem_map.1 hx
      have := hPs y hy
      omega
    have h := picks_back T.length (nl P) [0, 1, 2, 3, 4, 5] (B ++ (bitsN T.length 3 ++ bitsN P.length 15)) (S ++ Z) [] hlow hx
    rw [← hQ, nl_length, List.nil_append] at h
    have e1 : B ++ (bitsN T.length 3 ++ bitsN P.length 15) ++ Q ++ (S ++ Z) = W := by
      rw [hW]
      simp only [List.append_assoc]
    have e2 : (B ++ (bitsN T.length 3 ++ bitsN P.length 15)).length = B.length + 18 := by
      simp only [List.length_append, bitsN_length]
    rw [e1, e2] at h
    exact h
  have h4 : takeT W m.toNat T.length (B.length + 18 + Q.length) [] = (T.map nl, B.length + 18 + Q.length + S.length, 0) := by
    have h := takeT_back (n := m.toNat) (T.map nl) (B ++ (bitsN T.length 3 ++ (bitsN P.length 15 ++ Q))) Z [] (fun t ht => by
      obtain ⟨u, hu, rfl⟩ := List.mem_map.1 ht
      have h5 := hfull u hu
      refine ⟨by rw [nl_length]; omega, ?_⟩
      rw [zL_nl fun x hx => by have := h5.2.1.2.2.1 x hx; omega]
      exact h5.2.1)
    rw [← hS, List.length_map, List.nil_append] at h
    have e1 : B ++ (bitsN T.length 3 ++ (bitsN P.length 15 ++ Q)) ++ (S ++ Z) = W := by
      rw [hW]
      simp only [List.append_assoc]
    have e2 : (B ++ (bitsN T.length 3 ++ (bitsN P.length 15 ++ Q))).length = B.length + 18 + Q.length := by
      simp only [List.length_append, bitsN_length]
      omega
    rw [e1, e2] at h
    exact h
  rw [← hW]
  unfold takeG
  rw [if_neg (by rw [hWl]; omega), Int.toNat_natCast]
  unfold takeN
  rw [if_neg (by rw [hWl]; omega), h1, if_neg (by omega), if_neg (by rw [hWl]; omega), h2, if_neg (by omega)]
  unfold takeP
  rw [h3]
  show (if 0 = 0 then (if (takeT W m.toNat T.length (B.length + 18 + Q.length) []).2.2 = 0 then _ else _) else _) = _
  rw [if_pos rfl, h4, if_pos rfl]
  have e5 : (T.map nl).map zL = T := by
    rw [List.map_map]
    conv => rhs; rw [← List.map_id T]
    apply List.map_congr_left
    intro t ht
    exact zL_nl fun x hx => by have := (hfull t ht).2.1.2.2.1 x hx; omega
  have e6 : zL (nl P) = P := zL_nl fun x hx => (hPs x hx).1
  show ((T.map nl).map zL, zL (nl P), B.length + 18 + Q.length + S.length, 0) = _
  rw [e5, e6, show B.length + 18 + Q.length + S.length = B.length + (18 + Q.length + S.length) by omega]

end Go.Proofs.YtmgmgmbpldboiaaGreat
namespace Go.Proofs.YtmgmgmbpldboiaaGreat
open Go.RowKit

/-- The codes from number i on, of N. -/
def fromQ (T : List (List Nat)) (P L : List Nat) (i k : Nat) : List Nat := (List.range' i k).flatMap fun j => codeB (T.getD (P.getD (j / 50) 0) []) (L.getD j 0)
theorem fromQ_next (T : List (List Nat)) (P L : List Nat) (i k : Nat) : fromQ T P L i (k + 1) = codeB (T.getD (P.getD (i / 50) 0) []) (L.getD i 0) ++ fromQ T P L (i + 1) k := by
  unfold fromQ
  rw [List.range'_succ, List.flatMap_cons]
theorem fromQ_all (T : List (List Nat)) (P L : List Nat) (q : Nat) : fromQ T P L 0 q = codesQ T P L q := by
  unfold fromQ codesQ
  rw [List.range_eq_range']
theorem bit_fromQ (T : List (List Nat)) (P L : List Nat) (i k : Nat) : Bit01 (fromQ T P L i k) := fun b hb => by
  unfold fromQ at hb
  obtain ⟨j, _, hj⟩ := List.mem_flatMap.1 hb
  exact bit01_codeB _ _ b hj
set_option maxRecDepth 100000 in
/-- What stands behind i of k + i symbols, the last of which alone is the end. -/
theorem getF_back {T : List (List Nat)} {P L : List Nat} {n0 : Nat} (Z : List Nat) (hZ : Bit01 Z) : ∀ (k i : Nat) (pre out : List Nat) (K : Nat), k + 1 ≤ K → i + (k + 1) = L.length →
    (∀ j, i ≤ j → j < L.length → Fits (T.getD (P.getD (j / 50) 0) []) ∧ L.getD j 0 < (T.getD (P.getD (j / 50) 0) []).length) → (∀ j, i ≤ j → j < L.length → (L.getD j 0 + 1 = n0 ↔ j + 1 = L.length)) →
    getF T P (pre ++ (fromQ T P L i (k + 1) ++ Z)) n0 K i pre.length out = (out ++ L.drop i, pre.length + (fromQ T P L i (k + 1)).length, 0)
  | k, i, pre, out, 0, hK, _, _, _ => by omega
  | k, i, pre, out, K + 1, hK, hl, hT, hE => by
    have hil : i < L.length := by omega
    have h1 := hT i (Nat.le_refl _) hil
    have h2 := hE i (Nat.le_refl _) hil
    have hdrop : L.drop i = L.getD i 0 :: L.drop (i + 1) := by
      rw [List.drop_eq_getElem_cons hil, List.getD_eq_getElem?_getD, List.getElem?_eq_getElem hil]
      rfl
    rw [getF_more, List.drop_left, fromQ_next, List.append_assoc]
    rw [next_code h1.1 h1.2 _ ((bit_fromQ T P L (i + 1) k).append hZ)]
    show (if L.getD i 0 + 1 = n0 then _ else _) = _
    rw [List.length_append, codeB_length, hdrop]
    by_cases e : L.getD i 0 + 1 = n0
    · have he := h2.1 e
      rw [if_pos e]
      have hk : k = 0 := by omega
      subst hk
      have hd : L.drop (i + 1) = [] := List.drop_eq_nil_of_le (by omega)
      rw [hd]
      have hf : fromQ T P L (i + 1) 0 = [] := rfl
      rw [hf, List.length_nil, Nat.add_zero]
    · rw [if_neg e]
      have hne : ¬ i + 1 = L.length := fun h => e (h2.2 h)
      obtain ⟨k2, rfl⟩ : ∃ k2, k = k2 + 1 := ⟨k - 1, by omega⟩
      have e1 : pre ++ (codeB (T.getD (P.getD (i / 50) 0) []) (L.getD i 0) ++ (fromQ T P L (i + 1) (k2 + 1) ++ Z)) = (pre ++ codeB (T.getD (P.getD (i / 50) 0) []) (L.getD i 0)) ++ (fromQ T P L (i + 1) (k2 + 1) ++ Z) := by rw [List.append_assoc]
      have e2 : pre.length + (T.getD (P.getD (i / 50) 0) []).getD (L.getD i 0) 0 = (pre ++ codeB (T.getD (P.getD (i / 50) 0) []) (L.getD i 0)).length := by rw [List.length_append, codeB_length]
      rw [e1, e2, getF_back Z hZ k2 (i + 1) _ _ K (by omega) (by omega) (fun j h3 h4 => hT j (by omega) h4) (fun j h3 h4 => hE j (by omega) h4)]
      rw [List.length_append, codeB_length]
      simp [Nat.add_assoc]
/-- The list that ends where it should. -/
def EndsAt (L : List Int) (m : Int) : Prop := ∀ j, j < L.length → (L.getD j 0 + 1 = m ↔ j + 1 = L.length)
set_option maxRecDepth 100000 in
theorem gets_back {T : List (List Int)} {P L : List Int} {m : Int} (hg : GoodPlan T P L m) (hM : MayG L m) (hE : EndsAt L m) (B Z : List Nat) (hZ : Bit01 Z) : getG T P (B ++ codesQ (T.map nl) (nl P) (nl L) L.length ++ Z) (B.length : Nat) = (nl L, B.length + (codesQ (T.map nl) (nl P) (nl L) L.length).length, 0) := by
  have hPl := hg.2.1
  have hT := hg.1
  have h0 : (T.getD 0 []) ∈ T := list_at (by have := hT.1; omega)
  have hm := (hg.2.2 _ h0).1
  have hL1 := hM.2.2.1
  have hlen : (nl L).length = L.length := nl_length L
  have hr : ∀ j, j < L.length → 0 ≤ L.getD j 0 ∧ L.getD j 0 < m := fun j hj => hM.2.2.2.2 _ (int_mem hj)
  unfold getG
  rw [if_pos hT, if_neg (by simp only [List.length_append]; omega), Int.toNat_natCast, List.append_assoc, ← fromQ_all]
  obtain ⟨k, hk⟩ : ∃ k, L.length = k + 1 := ⟨L.length - 1, by omega⟩
  have hK : L.length ≤ 50 * P.length := by
    rw [hPl]
    unfold groupsN
    omega
  have h := getF_back (T := T.map nl) (P := nl P) (L := nl L) (n0 := (T.getD 0 []).length) Z hZ k 0 B [] (50 * P.length) (by omega) (by rw [hlen]; omega) (fun j _ hj => by
    rw [hlen] at hj
    have hpj : j / 50 < P.length := by
      rw [hPl]
      unfold groupsN
      omega
    have hp := hT.2.2.2.2.2.1 _ (int_mem hpj)
    have hpn : (nl P).getD (j / 50) 0 = (P.getD (j / 50) 0).toNat := nl_get P _
    have hpt : (P.getD (j / 50) 0).toNat < T.length := by omega
    obtain ⟨pj, hpj2⟩ : ∃ pj, pj = (P.getD (j / 50) 0).toNat := ⟨_, rfl⟩
    rw [← hpj2] at hpn hpt
    have hmem : T.getD pj [] ∈ T := list_at hpt
    have e : (T.map nl).getD ((nl P).getD (j / 50) 0) [] = nl (T.getD pj []) := by
      rw [hpn, List.getD_eq_getElem?_getD, List.getElem?_map, List.getD_eq_getElem?_getD, List.getElem?_eq_getElem hpt]
      rfl
    have hfull := hg.2.2 _ hmem
    have hj2 := hr j hj
    rw [e, nl_length, nl_get]
    exact ⟨fits_of hfull.2.1, by omega⟩) (fun j _ hj => by
    rw [hlen] at hj
    have hj2 := hr j hj
    have h3 := hE j hj
    rw [nl_get, hlen]
    constructor
    · intro h4
      exact h3.1 (by omega)
    · intro h4
      have := h3.2 h4
      omega)
  rw [← hk] at h
  rw [h]
  simp

theorem bits_good {T : List (List Int)} {P L : List Int} {m : Int} (h : GoodPlan T P L m) : bitsG T P = (planB (T.map nl) (nl P), 0) := if_pos h.1
theorem size_good {T : List (List Int)} {P L : List Int} {m : Int} (h : GoodPlan T P L m) (hM : MayG L m) : sizeG T P L = ((bitsG T P).1.length + (codesG T P L).1.length, 0) := by
  unfold sizeG
  rw [good_codes h hM, if_pos rfl]
theorem light_good {T : List (List Int)} {P L : List Int} {m : Int} (h : GoodPlan T P L m) (hM : MayG L m) (hL : L.length ≤ 3001) : LightP T P := by
  have h1 := h.1.2.1
  have h2 := h.2.1
  refine ⟨by omega, ?_, fun t ht => ?_⟩
  · rw [h2]
    unfold groupsN
    omega
  · have := (h.2.2 t ht).1
    have := hM.2.1
    omega
/-- What the best plan is. -/
theorem best_good (w : World) {L : List Int} {m : Int} (hM : MayG L m) : GoodPlan (bestAns L m).1 (bestAns L m).2.1 L m ∧ (bestAns L m).2.2 = 0 ∧ (sizeG (bestAns L m).1 (bestAns L m).2.1 L).1 ≤ (sizeG (flatAns L m).1 (flatAns L m).2.1 L).1 := by
  have hc := good_choose w hM
  have hf := good_flat hM
  have hc0 : (chooseAns L m).2.2 = 0 := by rw [chooseAns, if_pos hM]
  have hf0 : (flatAns L m).2.2 = 0 := by rw [flatAns, if_pos hM]
  unfold bestAns
  rw [if_pos hM]
  split
  · exact ⟨hf, hf0, Nat.le_refl _⟩
  · rename_i h
    exact ⟨hc, hc0, by omega⟩

end Go.Proofs.YtmgmgmbpldboiaaGreat
namespace Go.Proofs.YtmgmgmbpldboiaaGreat
open Go.RowKit

set_option maxRecDepth 100000 in
theorem PlanIn.tabs {w : World} {A B : Option Addr} {n c m d : Nat} {T : List (List Int)} {P : List Int} (h : PlanIn w (.agg #[.slice A n c, .slice B m d]) T P) : TabZ w A n T ∧ ZIn w B m P := by
  obtain ⟨A', n', c', B', m', d', hv, hT, _, _, hP, _⟩ := h
  simp only [Value.agg.injEq, Array.mk.injEq, List.cons.injEq, Value.slice.injEq] at hv
  obtain ⟨⟨rfl, rfl, rfl⟩, ⟨rfl, rfl, rfl⟩, _⟩ := hv
  exact ⟨hT, hP⟩

section
variable (R : GroupsDone)
include R
set_option maxHeartbeats 3200000 in
set_option maxRecDepth 100000 in
theorem sizes_law (w : World) (A : Option Addr) (n c : Nat) (L : List Int) (m : Int) (hL : ZIn w A n L) (hnc : n ≤ c) (hn : n ≤ maxLen) (h1 : -9223372036854775808 ≤ m) (h2 : m ≤ 9223372036854775807) : Calls Tryz.prog 8 #[.slice A n c, .int .i64 m] w fun e w' => e = .returned (.bool true) ∧ Below w.heap.size w w' := by
  have HAW := Lib.hid (awake_any R)
  unfold maxLen at hn
  by_cases hbig : 3000 < n
  · have d0 : decide ((3000 : Int) < (n : Int)) = true := decide_eq_true (by omega)
    clear hL R
    go_enter Tryz.func8, Tryz.ntmps8
    go_wp2_with fail
    refine (HAW.out _).mono ?_
    rintro e w7 ⟨rfl, hb7⟩
    have HB7 := Lib.hid hb7
    clear hb7
    go_wp2_with fail
    go_ret
    exact ⟨rfl, HB7.out⟩
  · have d0 : decide ((3000 : Int) < (n : Int)) = false := decide_eq_false (by omega)
    have HC1 := Lib.hid (R.best w A n c L m hL hnc (by omega) h1 h2)
    have HC2 := Lib.hid fun (wx : World) (h : ZIn wx A n L) => R.flat wx A n c L m h hnc (by omega) h1 h2
    have HL0 := Lib.hid hL
    by_cases hM : MayG L m
    · have hbg := best_good w hM
      have hfg := good_flat hM
      have hf0 : (flatAns L m).2.2 = 0 := by rw [flatAns, if_pos hM]
      have hlb := light_good hbg.1 hM (by rw [hL.1]; omega)
      have hlf := light_good hfg hM (by rw [hL.1]; omega)
      have hT10 := hlb.1
      have hsb := size_good hbg.1 hM
      have hsf := size_good hfg hM
      have hcb := good_codes hbg.1 hM
      have hbb := bits_good hbg.1
      have hle := hbg.2.2
      have hb0 := hbg.2.1
      have hfull := hbg.1.2.2
      have hshort := codesG_short (bestAns L m).1 (bestAns L m).2.1 L (by rw [hL.1]; omega)
      have hshort2 := bitsG_short (bestAns L m).1 (bestAns L m).2.1
      generalize bestAns L m = ba at *
      generalize flatAns L m = fa at *
      obtain ⟨T, P, kb⟩ := ba
      obtain ⟨U, Q, kf⟩ := fa
      dsimp only at hlb hlf hT10 hsb hsf hcb hbb hle hb0 hf0 hfull hshort hshort2
      subst hb0 hf0
      have HSP := Lib.hid fun (wx : World) (v : Value) (h : PlanIn wx v T P) (k : ZIn wx A n L) => R.size wx v T P A n c L h hlb k hnc (by omega)
      have HSQ := Lib.hid fun (wx : World) (v : Value) (h : PlanIn wx v U Q) (k : ZIn wx A n L) => R.size wx v U Q A n c L h hlf k hnc (by omega)
      have HSH := Lib.hid fun (wx : World) (v : Value) (h : PlanIn wx v T P) => R.shows wx v T P h hlb
      have HPU := Lib.hid fun (wx : World) (v : Value) (h : PlanIn wx v T P) (k : ZIn wx A n L) => R.puts wx v T P A n c L h hlb k hnc (by omega)
      have HFU := Lib.hid R.full
      obtain ⟨x1, hx1⟩ : ∃ x1, x1 = (bitsG T P).1.length := ⟨_, rfl⟩
      obtain ⟨x2, hx2⟩ : ∃ x2, x2 = (codesG T P L).1.length := ⟨_, rfl⟩
      obtain ⟨y, hy⟩ : ∃ y, y = (sizeG U Q L).1 := ⟨_, rfl⟩
      have hy2 : (sizeG U Q L).2 = 0 := by rw [hsf]
      have hx3 : (bitsG T P).2 = 0 := by rw [hbb]
      have hx4 : (codesG T P L).2 = 0 := by rw [hcb]
      rw [← hy] at hle HSQ
      rw [hsb, ← hx1, ← hx2] at hle
      rw [hsb, ← hx1, ← hx2] at HSP
      rw [hy2] at HSQ
      rw [← hx1] at hshort2
      rw [← hx2] at hshort
      dsimp only at hle HSP HSQ
      have HX1 := Lib.hid hx1
      have HX2 := Lib.hid hx2
      have HX3 := Lib.hid hx3
      have HX4 := Lib.hid hx4
      have HFT := Lib.hid hfull
      obtain ⟨x, hx⟩ : ∃ x, x = x1 + x2 := ⟨_, rfl⟩
      rw [← hx] at hle HSP
      have hxI : (x1 : Int) + (x2 : Int) = (x : Int) := by omega
      have hyx : decide ((y : Int) < (x : Int)) = false := decide_eq_false (by omega)
      have hyx2 : decide (y < x) = false := decide_eq_false (by omega)
      have HLE := Lib.hid hle
      have hxx : ((x : Int) != (x : Int)) = false := by simp
      have hxb : x ≤ 50000000 := by omega
      clear hL hbg hfg hlb hlf hsb hsf hcb hbb hle hfull hy hy2 hx1 hx2 hx3 hx4 hM R hshort hshort2 hx
      go_enter Tryz.func8, Tryz.ntmps8
      go_wp2_with fail
      refine HC1.out.mono ?_
      rintro e w1 ⟨v1, rfl, hp1, hb1⟩
      obtain ⟨A1, n1, c1, B1, m1, e1, rfl, hpl1⟩ := hp1.parts
      obtain ⟨hh2, hb12⟩ := held_new hpl1
      have hb2 := hb1.trans (hb12.mono hb1.size)
      have HH2 := Lib.hid hh2
      have HB2 := Lib.hid hb2
      have HL2 := Lib.hid (HL0.out.below hb2)
      clear hp1 hpl1 hh2 hb12 hb1 hb2 HC1 HL0
      (try dsimp only)
      go_upto_region 4 with fail
      generalize w1.alloc (.cells #[.slice A1 n1 c1, .slice B1 m1 e1] 26) = w2 at *
      generalize w1.heap.size = g1 at *
      have HF2 := Lib.hid (HC2.out w2 HL2.out)
      go_wp2_with fail
      refine HF2.out.mono ?_
      rintro e w3 ⟨v3, rfl, hp3, hb3⟩
      obtain ⟨A3, n3, c3, B3, m3, e3, rfl, hpl3⟩ := hp3.parts
      obtain ⟨hh4, hb34⟩ := held_new hpl3
      have hb4 := hb3.trans (hb34.mono hb3.size)
      have HG4 := Lib.hid hh4
      have HH4 := Lib.hid (HH2.out.below hb4)
      have HB4 := Lib.hid (HB2.out.trans (hb4.mono HB2.out.size))
      have HL4 := Lib.hid (HL2.out.below hb4)
      clear hp3 hpl3 hh4 hb34 hb3 hb4 HF2 HC2 HH2 HL2 HB2
      (try dsimp only)
      go_upto_region 5 with fail
      generalize w3.alloc (.cells #[.slice A3 n3 c3, .slice B3 m3 e3] 26) = w4 at *
      generalize w3.heap.size = g3 at *
      obtain ⟨q0, q1⟩ := HH4.out.cells
      have HS4 := Lib.hid (HSP.out w4 _ HH4.out.2 HL4.out)
      go_wp2_with fail
      clear q0 q1
      refine HS4.out.mono ?_
      rintro e w5 ⟨rfl, hb5⟩
      have HG5 := Lib.hid (HG4.out.below hb5)
      have HH5 := Lib.hid (HH4.out.below hb5)
      have HB5 := Lib.hid (HB4.out.trans (hb5.mono HB4.out.size))
      have HL5 := Lib.hid (HL4.out.below hb5)
      clear hb5 HS4 HG4 HH4 HB4 HL4
      obtain ⟨q0, q1⟩ := HG5.out.cells
      have HS5 := Lib.hid (HSQ.out w5 _ HG5.out.2 HL5.out)
      go_wp2_with fail
      clear q0 q1
      refine HS5.out.mono ?_
      rintro e w6 ⟨rfl, hb6⟩
      have HH6 := Lib.hid (HH5.out.below hb6)
      have HB6 := Lib.hid (HB5.out.trans (hb6.mono HB5.out.size))
      have HL6 := Lib.hid (HL5.out.below hb6)
      clear hb6 HS5 HG5 HH5 HB5 HL5
      obtain ⟨q0, q1⟩ := HH6.out.cells
      have HS6 := Lib.hid (HSH.out w6 _ HH6.out.2)
      go_wp2_with fail
      clear q0 q1
      refine HS6.out.mono ?_
      rintro e w7 ⟨rfl, hb7⟩
      rw [← HX1.out, HX3.out]
      obtain ⟨X, hX⟩ : ∃ X, X = (⟨(pack (bitsG T P).1).toArray⟩ : ByteArray) := ⟨_, rfl⟩
      rw [← hX]
      have hb78 : Below w7.heap.size w7 (w7.alloc (.cells #[.string X, .int .i64 x1] 43)) := (Below.refl _ _).alloc (Nat.le_refl _) _
      have HK8 := Lib.hid (blk_new w7 43 #[.string X, .int .i64 x1])
      have hb8 := hb7.trans (hb78.mono hb7.size)
      have HH8 := Lib.hid (HH6.out.below hb8)
      have HB8 := Lib.hid (HB6.out.trans (hb8.mono HB6.out.size))
      have HL8 := Lib.hid (HL6.out.below hb8)
      clear hb7 hb78 hb8 hX HS6 HH6 HB6 HL6
      go_upto_region 10 with fail
      generalize w7.alloc (.cells #[.string X, .int .i64 x1] 43) = w8 at *
      generalize w7.heap.size = g7 at *
      obtain ⟨q0, q1⟩ := HH8.out.cells
      have HS8 := Lib.hid (HPU.out w8 _ HH8.out.2 HL8.out)
      go_wp2_with fail
      clear q0 q1
      refine HS8.out.mono ?_
      rintro e w9 ⟨rfl, hb9⟩
      rw [← HX2.out, HX4.out]
      obtain ⟨Y, hY⟩ : ∃ Y, Y = (⟨(pack (codesG T P L).1).toArray⟩ : ByteArray) := ⟨_, rfl⟩
      rw [← hY]
      have hb910 : Below w9.heap.size w9 (w9.alloc (.cells #[.string Y, .int .i64 x2] 43)) := (Below.refl _ _).alloc (Nat.le_refl _) _
      have hk10 := blk_new w9 43 #[.string Y, .int .i64 x2]
      have hb10 := hb9.trans (hb910.mono hb9.size)
      have hk8 := (step_of_below hb10).blk HK8.out List.not_mem_nil List.not_mem_nil
      have HH10 := Lib.hid (HH8.out.below hb10)
      have HB10 := Lib.hid (HB8.out.trans (hb10.mono HB8.out.size))
      have r1 := (blk_cell hk8 1).trans rfl
      have s1 := (blk_cell hk10 1).trans rfl
      clear hb9 hb910 hb10 hY HS8 HH8 HB8 HL8 hk8 hk10
      go_upto_region 11 with fail
      generalize w9.alloc (.cells #[.string Y, .int .i64 x2] 43) = w10 at *
      generalize w9.heap.size = g9 at *
      go_wp2_with fail
      clear r1 s1
      clear hxx hyx hyx2 hxI
      go_loopw [17] (fun iv' wx => ∃ q : Nat, q ≤ n1 ∧ iv' = .int .i64 q ∧ Held wx g1 T P (.slice A1 n1 c1) (.slice B1 m1 e1) ∧ Below w.heap.size w wx) (fun iv' _ => n1 - (intOf iv').toNat)
      case atStart => exact ⟨0, Nat.zero_le _, rfl, HH10.out, HB10.out⟩
      case round =>
        obtain ⟨q, hq, rfl, hh, hb⟩ := hrel
        obtain ⟨q0, _⟩ := hh.cells
        have ht := hh.2.tabs.1
        have hn10 : n1 ≤ 10 := by have := ht.1; omega
        have HHQ := Lib.hid hh
        have HBQ := Lib.hid hb
        by_cases e : q < n1
        · have dq : decide ((q : Int) < (n1 : Int)) = true := decide_eq_true (by omega)
          have htn := ht.1
          obtain ⟨b, off, rfl, hc⟩ := ht.2 (by omega)
          obtain ⟨A2, c2, k1, k2, k3, k4⟩ := hc q e
          have hf := HFT.out _ (list_at (T := T) (q := q) (by omega))
          have HFQ := Lib.hid (HFU.out wr A2 _ c2 _ k2 k3 k4)
          rw [decide_eq_true (show LenOk (T.getD q []) ∧ kraftL (T.getD q []) = 1048576 from hf.2)] at HFQ
          obtain ⟨K, hK⟩ : ∃ K, K = (T.getD q []).length := ⟨_, rfl⟩
          rw [← hK] at k1 HFQ
          have hqI : (q : Int) < (n1 : Int) := by omega
          clear hc k2 k3 k4 hf hK ht hh hb htn
          go_wp2_with fail
          refine HFQ.out.mono ?_
          rintro e w12 ⟨rfl, hb12⟩
          have HHR := Lib.hid (HHQ.out.below hb12)
          have HBR := Lib.hid (HBQ.out.trans (hb12.mono HBQ.out.size))
          clear hb12
          go_wp2_with fail
          go_roundw
          case rel => exact ⟨q + 1, by omega, by go_num, HHR.out, HBR.out⟩
          case measure => simp [intOf]; omega
        · obtain rfl : q = n1 := by omega
          have dq : decide ((q : Int) < (q : Int)) = false := decide_eq_false (by omega)
          clear ht hh hb
          go_wp2_with fail
          refine (HAW.out _).mono ?_
          rintro e w12 ⟨rfl, hb12⟩
          have HBR := Lib.hid (HBQ.out.trans (hb12.mono HBQ.out.size))
          clear hb12
          go_wp2_with fail
          go_ret
          exact ⟨rfl, HBR.out⟩
    · have hbe : bestAns L m = ([], [], 2) := if_neg hM
      have hfe : flatAns L m = ([], [], 2) := if_neg hM
      rw [hbe] at HC1
      rw [hfe] at HC2
      clear hL hM R hbe hfe
      go_enter Tryz.func8, Tryz.ntmps8
      go_wp2_with fail
      refine HC1.out.mono ?_
      rintro e w1 ⟨v1, rfl, hp1, hb1⟩
      obtain ⟨A1, n1, c1, B1, m1, e1, rfl, hpl1⟩ := hp1.parts
      have hz1 : n1 = 0 := hpl1.tabs.1.1.symm
      have hz2 : m1 = 0 := hpl1.tabs.2.1.symm
      subst hz1 hz2
      obtain ⟨hh2, hb12⟩ := held_new hpl1
      have hb2 := hb1.trans (hb12.mono hb1.size)
      have HH2 := Lib.hid hh2
      have HB2 := Lib.hid hb2
      have HL2 := Lib.hid (HL0.out.below hb2)
      clear hp1 hpl1 hh2 hb12 hb1 hb2 HC1 HL0
      (try dsimp only)
      go_upto_region 4 with fail
      generalize w1.alloc (.cells #[.slice A1 0 c1, .slice B1 0 e1] 26) = w2 at *
      generalize w1.heap.size = g1 at *
      have HF2 := Lib.hid (HC2.out w2 HL2.out)
      go_wp2_with fail
      refine HF2.out.mono ?_
      rintro e w3 ⟨v3, rfl, hp3, hb3⟩
      obtain ⟨A3, n3, c3, B3, m3, e3, rfl, hpl3⟩ := hp3.parts
      obtain ⟨hh4, hb34⟩ := held_new hpl3
      have hb4 := hb3.trans (hb34.mono hb3.size)
      have hh := HH2.out.below hb4
      have HB4 := Lib.hid (HB2.out.trans (hb4.mono HB2.out.size))
      obtain ⟨q0, q1⟩ := hh.cells
      clear hp3 hpl3 hh4 hb34 hb3 hb4 HF2 HC2 HH2 HL2 HB2 hh
      (try dsimp only)
      go_upto_region 5 with fail
      generalize w3.alloc (.cells #[.slice A3 n3 c3, .slice B3 m3 e3] 26) = w4 at *
      generalize w3.heap.size = g3 at *
      go_wp2_with fail
      refine (HAW.out _).mono ?_
      rintro e w12 ⟨rfl, hb12⟩
      have HBR := Lib.hid (HB4.out.trans (hb12.mono HB4.out.size))
      clear hb12
      go_wp2_with fail
      go_ret
      exact ⟨rfl, HBR.out⟩
end

end Go.Proofs.YtmgmgmbpldboiaaGreat
