/- Ye Od Ta Yg Uc: texts laid together, what is not used left out. -/
import Derived.Test.YtmgmgmbpldboiaaZ03
import Derived.Test.YtmgmgmbpldboiaaZ00
import Derived.Deep.CutRange
import Derived.Test.YtmgmgmbpldboiaaZ02
namespace Go.Proofs.Ytmgmgmbpldboiaa
open Go.RowKit

/-- What lengths take. -/
def kraftL (L : List Int) : Nat := (L.map fun x => 2 ^ (20 - x.toNat)).sum
/-- Lengths may be. -/
def LenOk (L : List Int) : Prop := 2 ≤ L.length ∧ L.length ≤ 258 ∧ (∀ x ∈ L, 1 ≤ x ∧ x ≤ 20) ∧ kraftL L ≤ 1048576
instance (L : List Int) : Decidable (LenOk L) := inferInstanceAs (Decidable (_ ∧ _))
def roomV (L : List Int) : Int := if LenOk L then (kraftL L : Nat) else -1
set_option maxRecDepth 100000 in
theorem kraft_snoc (L : List Int) (x : Int) : kraftL (L ++ [x]) = kraftL L + 2 ^ (20 - x.toNat) := by
  unfold kraftL
  rw [List.map_append, List.sum_append]
  simp
theorem kraft_le (L : List Int) (h : ∀ x ∈ L, 1 ≤ x) : kraftL L ≤ 524288 * L.length := by
  unfold kraftL
  have h1 := sum_le 524288 (L.map fun x => 2 ^ (20 - x.toNat)) (fun y hy => by
    obtain ⟨x, hx, rfl⟩ := List.mem_map.1 hy
    have := h x hx
    have h2 : 2 ^ (20 - x.toNat) ≤ 2 ^ 19 := Nat.pow_le_pow_right (by decide) (by omega)
    exact h2)
  rw [List.length_map] at h1
  exact h1

set_option maxHeartbeats 1600000 in
set_option maxRecDepth 100000 in
theorem room_any (w : World) (A : Option Addr) (n c : Nat) (L : List Int) (hL : ZIn w A n L) (hn : n ≤ maxLen) : Calls Try.prog 77 #[.slice A n c] w fun e w' => e = .returned (.int .i64 (roomV L)) ∧ w' = w := by
  unfold maxLen at hn
  have hlm := hL.1
  have HL := Lib.hid hL
  have HLM := Lib.hid hlm
  have HNO : Hid (∀ x ∈ L, (x < 1 ∨ 20 < x) → roomV L = -1) := Lib.hid fun x hx h => if_neg fun hm => by
    have := hm.2.2.1 x hx
    omega
  have HSM : Hid ((n < 2 ∨ 258 < n) → roomV L = -1) := Lib.hid fun h => if_neg fun hm => by
    have := hm.1
    have := hm.2.1
    omega
  have HBG : Hid (1048576 < kraftL L → roomV L = -1) := Lib.hid fun h => if_neg fun hm => by
    have := hm.2.2.2
    omega
  have HOK : Hid (2 ≤ n → n ≤ 258 → (∀ x ∈ L, 1 ≤ x ∧ x ≤ 20) → kraftL L ≤ 1048576 → roomV L = (kraftL L : Nat)) := Lib.hid fun h1 h2 h3 h4 => if_pos ⟨by omega, by omega, h3, h4⟩
  clear hL hlm
  generalize roomV L = ans at *
  go_enter Try.func77, Try.ntmps77
  go_wp2_with fail
  go_loopw [3, 4] (fun s i wx => ∃ (q : Nat) (v : Int), q ≤ n ∧ i = .int .i64 q ∧ s = .int .i64 v ∧ Hid (q ≤ 1000000 → v = (kraftL (L.take q) : Nat)) ∧ Hid (∀ x ∈ L.take q, 1 ≤ x ∧ x ≤ 20) ∧ wx = w) (fun _ i _ => n - (intOf i).toNat)
  case atStart => exact ⟨0, 0, Nat.zero_le _, rfl, rfl, fun _ => rfl, by simp [Hid], rfl⟩
  case round =>
    obtain ⟨q, v, hq, rfl, rfl, hk, hv, rfl⟩ := hrel
    by_cases e : q < n
    · have dq : decide ((q : Int) < (n : Int)) = true := decide_eq_true (by omega)
      obtain ⟨b, off, rfl, hc⟩ := HL.out.2 (by omega)
      have hcw := hc q e
      have htk := take_snoc_int L q (by rw [HLM.out]; exact e)
      have hmem := getD_mem_int L q (by rw [HLM.out]; exact e)
      obtain ⟨x, hx⟩ : ∃ x, x = L.getD q 0 := ⟨_, rfl⟩
      rw [← hx] at hcw htk hmem
      have HTK := Lib.hid htk
      have HM := Lib.hid hmem
      clear hc hx htk hmem
      by_cases e1 : x < 1
      · have d1 : decide (x < 1) = true := decide_eq_true e1
        have hans := HNO.out x HM.out (.inl e1)
        subst hans
        clear HSM HBG HOK
        go_wp2_with fail
        go_ret
        exact ⟨rfl, rfl⟩
      · have d1 : decide (x < 1) = false := decide_eq_false e1
        by_cases e2 : 20 < x
        · have d2 : decide (20 < x) = true := decide_eq_true e2
          have hans := HNO.out x HM.out (.inr e2)
          subst hans
          clear HSM HBG HOK
          go_wp2_with fail
          go_ret
          exact ⟨rfl, rfl⟩
        · obtain ⟨y, rfl⟩ : ∃ y : Nat, x = y := ⟨x.toNat, by omega⟩
          have d1' : decide ((y : Int) < 1) = false := d1
          have d2 : decide ((20 : Int) < (y : Int)) = false := decide_eq_false e2
          have hv2 : ∀ z ∈ L.take (q + 1), 1 ≤ z ∧ z ≤ 20 := by
            rw [HTK.out]
            intro z hz
            rcases List.mem_append.1 hz with hz | hz
            · exact hv.out z hz
            · rw [List.mem_singleton.1 hz]
              omega
          have HV2 := Lib.hid hv2
          obtain ⟨d, hd⟩ : ∃ d, d = 20 - y := ⟨_, rfl⟩
          have hdz : (20 : Int) - (y : Int) = (d : Int) := by omega
          have hd19 : d ≤ 19 := by omega
          obtain ⟨t, ht⟩ : ∃ t : Nat, t = 2 ^ d := ⟨_, rfl⟩
          have htz : ((2 : Int) ^ d) = (t : Int) := by rw [ht]; simp
          have ht19 : t ≤ 524288 := by
            rw [ht]
            exact Nat.pow_le_pow_right (by decide) hd19
          have hkn : kraftL (L.take (q + 1)) = kraftL (L.take q) + t := by
            rw [HTK.out, kraft_snoc, ht, hd, Int.toNat_natCast]
          have hkl := kraft_le (L.take q) fun z hz => (hv.out z hz).1
          have hlt : (L.take q).length ≤ q := by rw [List.length_take]; omega
          have HKN := Lib.hid hkn
          have hy1 : ¬ (y : Int) < 1 := e1
          clear hv2 hd ht hkn e1
          by_cases e3 : q + 1 ≤ 1000000
          · have hvk := hk.out (by omega)
            obtain ⟨z, hz⟩ : ∃ z, z = kraftL (L.take q) := ⟨_, rfl⟩
            rw [← hz] at hvk hkl
            have HZ := Lib.hid hz
            subst hvk
            have hzb : z ≤ 524288000000 := by
              have : 524288 * (L.take q).length ≤ 524288 * 1000000 := Nat.mul_le_mul_left _ (by omega)
              omega
            have HK2 : Hid (q + 1 ≤ 1000000 → (z : Int) + (t : Int) = (kraftL (L.take (q + 1)) : Nat)) := Lib.hid fun _ => by rw [HKN.out, ← HZ.out]; simp
            clear hz hk hkl hlt HNO HSM HBG HOK
            go_wp2_with fail
            go_roundw
            case rel => exact ⟨q + 1, _, by omega, by go_num, rfl, HK2, HV2, trivial⟩
            case measure => simp [intOf]; omega
          · clear hkl hlt hk HNO HSM HBG HOK
            go_wp2_with fail
            go_roundw
            case rel => exact ⟨q + 1, _, by omega, by go_num, rfl, fun h => absurd h e3, HV2, trivial⟩
            case measure => simp [intOf]; omega
    · obtain rfl : q = n := by omega
      have dq : decide ((q : Int) < (q : Int)) = false := decide_eq_false (by omega)
      have hv2 := hv.out
      have hk2 := hk.out
      rw [List.take_of_length_le (Nat.le_of_eq HLM.out)] at hv2 hk2
      by_cases h1 : q < 2
      · have d1 : decide ((q : Int) < 2) = true := decide_eq_true (by omega)
        have hans := HSM.out (.inl h1)
        subst hans
        clear hv2 hk2 hk hv HNO HSM HBG HOK
        go_wp2_with fail
        go_ret
        exact ⟨rfl, rfl⟩
      · have d1 : decide ((q : Int) < 2) = false := decide_eq_false (by omega)
        by_cases h2 : 258 < q
        · have d2 : decide ((258 : Int) < (q : Int)) = true := decide_eq_true (by omega)
          have hans := HSM.out (.inr h2)
          subst hans
          clear hv2 hk2 hk hv HNO HSM HBG HOK
          go_wp2_with fail
          go_ret
          exact ⟨rfl, rfl⟩
        · have d2 : decide ((258 : Int) < (q : Int)) = false := decide_eq_false (by omega)
          have hvk := hk2 (by omega)
          obtain ⟨z, hz⟩ : ∃ z, z = kraftL L := ⟨_, rfl⟩
          rw [← hz] at hvk
          subst hvk
          by_cases h3 : 1048576 < z
          · have d3 : decide ((1048576 : Int) < (z : Int)) = true := decide_eq_true (by omega)
            have hans := HBG.out (by rw [← hz]; exact h3)
            subst hans
            clear hv2 hk2 hk hv HNO HSM HBG HOK hz
            go_wp2_with fail
            go_ret
            exact ⟨rfl, rfl⟩
          · have d3 : decide ((1048576 : Int) < (z : Int)) = false := decide_eq_false (by omega)
            have hans := HOK.out (by omega) (by omega) hv2 (by rw [← hz]; omega)
            rw [← hz] at hans
            subst hans
            clear hv2 hk2 hk hv HNO HSM HBG HOK hz
            go_wp2_with fail
            go_ret
            exact ⟨rfl, rfl⟩

set_option maxRecDepth 100000 in
theorem check_any (w : World) (A : Option Addr) (n c : Nat) (L : List Int) (hL : ZIn w A n L) (hn : n ≤ maxLen) : Calls Try.prog 59 #[.slice A n c] w fun e w' => e = .returned (.int .i64 (if LenOk L then 0 else 80)) ∧ w' = w := by
  have HR := Lib.hid (room_any w A n c L hL hn)
  clear hL
  by_cases h : LenOk L
  · rw [show roomV L = (kraftL L : Nat) from if_pos h] at HR
    rw [if_pos h]
    obtain ⟨z, hz⟩ : ∃ z, z = kraftL L := ⟨_, rfl⟩
    rw [← hz] at HR
    have d0 : decide ((z : Int) < 0) = false := decide_eq_false (by omega)
    clear h hz
    go_enter Try.func59, Try.ntmps59
    go_wp2_with fail
    refine HR.out.mono ?_
    rintro e w' ⟨rfl, rfl⟩
    go_wp2_with fail
    go_ret
    exact ⟨rfl, rfl⟩
  · rw [show roomV L = -1 from if_neg h] at HR
    rw [if_neg h]
    clear h
    go_enter Try.func59, Try.ntmps59
    go_wp2_with fail
    refine HR.out.mono ?_
    rintro e w' ⟨rfl, rfl⟩
    go_wp2_with fail
    go_ret
    exact ⟨rfl, rfl⟩


end Go.Proofs.Ytmgmgmbpldboiaa
namespace Go.Proofs.Ytmgmgmbpldboiaa

/-- Lengths as numbers. -/
def nl (L : List Int) : List Nat := L.map Int.toNat
theorem nl_length (L : List Int) : (nl L).length = L.length := List.length_map _
theorem nl_get (L : List Int) (i : Nat) : (nl L).getD i 0 = (L.getD i 0).toNat := by
  unfold nl
  rw [List.getD_eq_getElem?_getD, List.getD_eq_getElem?_getD, List.getElem?_map]
  cases L[i]? <;> rfl
theorem sum_nl (L : List Int) : sumP (nl L) = kraftL L := by
  unfold sumP nl kraftL pw
  rw [List.map_map]
  rfl
theorem fits_of {L : List Int} (h : LenOk L) : Fits (nl L) := by
  obtain ⟨_, _, h3, h4⟩ := h
  refine ⟨fun x hx => ?_, fun x hx => ?_, by rw [sum_nl]; exact h4⟩
  · obtain ⟨y, hy, rfl⟩ := List.mem_map.1 hx
    have := h3 y hy
    omega
  · obtain ⟨y, hy, rfl⟩ := List.mem_map.1 hx
    have := h3 y hy
    omega

theorem ite_iff {α : Type} {p q : Prop} [Decidable p] [Decidable q] (h : p ↔ q) (a b : α) : (if p then a else b) = if q then a else b := by
  by_cases hq : q
  · rw [if_pos hq, if_pos (h.2 hq)]
  · rw [if_neg hq, if_neg (fun k => hq (h.1 k))]
/-- What stands in the table when lengths below n, and those of n below number i, are done. -/
def tabC (l : List Nat) (n i j : Nat) : List Nat := if l.getD j 0 < n ∨ (l.getD j 0 = n ∧ j < i) then codeB l j else []
set_option maxRecDepth 100000 in
theorem tabC_skip {l : List Nat} {n i : Nat} (h : l.getD i 0 ≠ n) (j : Nat) : tabC l n (i + 1) j = tabC l n i j := by
  unfold tabC
  by_cases e : j = i
  · subst e
    have h1 : ¬ (l.getD j 0 = n ∧ j < j + 1) := fun k => h k.1
    have h2 : ¬ (l.getD j 0 = n ∧ j < j) := fun k => h k.1
    simp only [h1, h2, or_false]
  · exact ite_iff (by omega) _ _
theorem tabC_put {l : List Nat} {n i : Nat} (h : l.getD i 0 = n) (j : Nat) : tabC l n (i + 1) j = if j = i then codeB l i else tabC l n i j := by
  unfold tabC
  by_cases e : j = i
  · subst e
    rw [if_pos rfl, if_pos (Or.inr ⟨h, by omega⟩)]
  · rw [if_neg e]
    exact ite_iff (by omega) _ _
theorem tabC_up {l : List Nat} {n i j : Nat} (h : j < i) : tabC l n i j = tabC l (n + 1) 0 j := by
  unfold tabC
  exact ite_iff (by omega) _ _
theorem tabC_none {l : List Nat} (h : Fits l) {j : Nat} (hj : j < l.length) : tabC l 1 0 j = [] := by
  unfold tabC
  have := (h.one hj).1
  rw [if_neg (by omega)]
theorem tabC_all {l : List Nat} (h : Fits l) {j : Nat} (hj : j < l.length) : tabC l 21 0 j = codeB l j := by
  unfold tabC
  have := (h.one hj).2
  rw [if_pos (by omega)]

/-- The code that is next. -/
def cd (l : List Nat) (n i : Nat) : Nat := pos n i l / pw n
theorem cd_start {l : List Nat} (h : Fits l) : cd l 1 0 = 0 := by
  unfold cd
  rw [pos_zero l h.low, Nat.zero_div]
theorem cd_put {l : List Nat} {n i : Nat} (hi : i < l.length) (h : l.getD i 0 = n) : cd l n (i + 1) = cd l n i + 1 := by
  unfold cd
  rw [pos_step n l i hi, if_pos h, Nat.add_div_right _ (pw_pos n)]
theorem cd_skip {l : List Nat} {n i : Nat} (hi : i < l.length) (h : l.getD i 0 ≠ n) : cd l n (i + 1) = cd l n i := by
  unfold cd
  rw [pos_step n l i hi, if_neg h, Nat.add_zero]
theorem cd_code {l : List Nat} {n i : Nat} (h : l.getD i 0 = n) : cd l n i = codeN l i := by
  unfold cd codeN lie
  rw [h]
theorem cd_up {l : List Nat} {n i : Nat} (hi : l.length ≤ i) (hn : n < 20) : cd l (n + 1) 0 = 2 * cd l n i := by
  unfold cd
  rw [← pos_up n l i hi]
  have h1 := pw_split (n := n) (x := n + 1) (by omega) (by omega)
  rw [show n + 1 - n = 1 by omega, Nat.pow_one] at h1
  obtain ⟨k, hk⟩ := pos_dvd n (by omega) l i
  have hp := pw_pos n
  have hp1 := pw_pos (n + 1)
  rw [hk, Nat.mul_div_cancel_left k hp, h1, Nat.mul_assoc, Nat.mul_div_cancel_left _ hp1]
theorem cd_le {l : List Nat} (h : Fits l) {n : Nat} (hn : n ≤ 20) (i : Nat) : cd l n i ≤ 1048576 := by
  unfold cd
  have h1 := pos_le l h.high hn i
  have h2 := h.sum
  exact Nat.le_trans (Nat.div_le_self _ _) (by omega)

/-- So many symbols, from a bit on, behind what there is. -/
def allF (l bs : List Nat) (en : Int) : Nat → Nat → List Nat → List Nat × Nat × Nat
  | 0, at', out => (out, at', 0)
  | k + 1, at', out => match nextL l (bs.drop at') with
    | .hit i => if (i : Int) = en then (out ++ [i], at' + l.getD i 0, 0) else allF l bs en k (at' + l.getD i 0) (out ++ [i])
    | .short => ([], 0, 10)
    | .code => ([], 0, 90)
/-- What All answers. -/
def allAns (L : List Int) (bs : List Nat) (at' n en : Int) : List Nat × Nat × Nat := if LenOk L then (if at' < 0 ∨ (bs.length : Int) < at' ∨ n < 0 then ([], 0, 2) else allF (nl L) bs en n.toNat at'.toNat []) else ([], 0, 80)
theorem bit01_codeB (l : List Nat) (i : Nat) : Bit01 (codeB l i) := bit01_bitsN _ _
theorem codeB_length (l : List Nat) (i : Nat) : (codeB l i).length = l.getD i 0 := bitsN_length _ _
end Go.Proofs.Ytmgmgmbpldboiaa
namespace Go.Proofs.Ytmgmgmbpldboiaa

/-- Lengths that may be told. -/
def DOk (L : List Int) : Prop := 2 ≤ L.length ∧ L.length ≤ 258 ∧ ∀ x ∈ L, 1 ≤ x ∧ x ≤ 20
instance (L : List Int) : Decidable (DOk L) := inferInstanceAs (Decidable (_ ∧ _))
/-- So many steps up; so many down. -/
def ups : Nat → List Nat
  | 0 => []
  | k + 1 => 1 :: 0 :: ups k
def downs : Nat → List Nat
  | 0 => []
  | k + 1 => 1 :: 1 :: downs k
theorem ups_snoc : ∀ k, ups (k + 1) = ups k ++ [1, 0]
  | 0 => rfl
  | k + 1 => by
    show 1 :: 0 :: ups (k + 1) = 1 :: 0 :: ups k ++ [1, 0]
    rw [ups_snoc k]
    rfl
theorem downs_snoc : ∀ k, downs (k + 1) = downs k ++ [1, 1]
  | 0 => rfl
  | k + 1 => by
    show 1 :: 1 :: downs (k + 1) = 1 :: 1 :: downs k ++ [1, 1]
    rw [downs_snoc k]
    rfl
theorem ups_length : ∀ k, (ups k).length = 2 * k
  | 0 => rfl
  | k + 1 => by
    show (ups k).length + 1 + 1 = _
    rw [ups_length k]
    omega
theorem downs_length : ∀ k, (downs k).length = 2 * k
  | 0 => rfl
  | k + 1 => by
    show (downs k).length + 1 + 1 = _
    rw [downs_length k]
    omega
set_option maxRecDepth 100000 in
theorem bit_ups : ∀ k, Bit01 (ups k)
  | 0 => fun b hb => by cases hb
  | k + 1 => fun b hb => by
    rcases List.mem_cons.1 hb with rfl | hb
    · omega
    · rcases List.mem_cons.1 hb with rfl | hb
      · omega
      · exact bit_ups k b hb
set_option maxRecDepth 100000 in
theorem bit_downs : ∀ k, Bit01 (downs k)
  | 0 => fun b hb => by cases hb
  | k + 1 => fun b hb => by
    rcases List.mem_cons.1 hb with rfl | hb
    · omega
    · rcases List.mem_cons.1 hb with rfl | hb
      · omega
      · exact bit_downs k b hb
/-- One length, from the one ahead on. -/
def stepB (a x : Nat) : List Nat := ups (x - a) ++ downs (a - x) ++ [0]
theorem stepB_length (a x : Nat) : (stepB a x).length = 2 * ((x - a) + (a - x)) + 1 := by
  unfold stepB
  rw [List.length_append, List.length_append, ups_length, downs_length]
  show _ + 1 = _
  omega
theorem bit_stepB (a x : Nat) : Bit01 (stepB a x) := by
  refine ((bit_ups _).append (bit_downs _)).append ?_
  intro b hb
  rw [List.mem_singleton.1 hb]
  omega
/-- Lengths, one behind the other. -/
def stepsB : Nat → List Nat → List Nat
  | _, [] => []
  | a, x :: l => stepB a x ++ stepsB x l
theorem bit_stepsB : ∀ (l : List Nat) (a : Nat), Bit01 (stepsB a l)
  | [], _ => fun b hb => by cases hb
  | x :: l, a => (bit_stepB a x).append (bit_stepsB l x)
/-- What has been told of the first lengths. -/
def aheadD (l : List Nat) (i : Nat) : Nat := l.getD (i - 1) 0
set_option maxRecDepth 100000 in
theorem stepsB_snoc : ∀ (l : List Nat) (a x : Nat), stepsB a (l ++ [x]) = stepsB a l ++ stepB (match l.getLast? with | some y => y | none => a) x
  | [], a, x => by simp [stepsB]
  | y :: l, a, x => by
    show stepB a y ++ stepsB y (l ++ [x]) = (stepB a y ++ stepsB y l) ++ _
    rw [stepsB_snoc l y x, List.append_assoc]
    congr 2
    cases l with
    | nil => rfl
    | cons z l => rfl
theorem stepsB_next {l : List Nat} {i : Nat} (hi : i < l.length) : stepsB (l.getD 0 0) (l.take (i + 1)) = stepsB (l.getD 0 0) (l.take i) ++ stepB (aheadD l i) (l.getD i 0) := by
  rw [List.take_succ_eq_append_getElem hi, stepsB_snoc]
  congr 2
  · cases i with
    | zero => rfl
    | succ k =>
      rw [List.getLast?_take]
      unfold aheadD
      have e : l.getD k 0 = l[k] := by
        rw [List.getD_eq_getElem?_getD, List.getElem?_eq_getElem (by omega)]
        rfl
      rw [if_neg (by omega), Nat.add_sub_cancel, List.getElem?_eq_getElem (by omega), e]
      rfl
  · rw [List.getD_eq_getElem?_getD, List.getElem?_eq_getElem hi]
    rfl
/-- What Show tells, as bits. -/
def showD (l : List Nat) : List Nat := bitsN (l.getD 0 0) 5 ++ stepsB (l.getD 0 0) l
theorem bit_showD (l : List Nat) : Bit01 (showD l) := (bit01_bitsN _ _).append (bit_stepsB _ _)
def showAns (L : List Int) : List Nat × Nat := if DOk L then (showD (nl L), 0) else ([], 80)
/-- How many steps there are. -/
def sizeD : Nat → List Nat → Nat
  | _, [] => 0
  | a, x :: l => (x - a) + (a - x) + sizeD x l
theorem stepsB_length : ∀ (l : List Nat) (a : Nat), (stepsB a l).length = l.length + 2 * sizeD a l
  | [], _ => rfl
  | x :: l, a => by
    show (stepB a x ++ stepsB x l).length = (l.length + 1) + 2 * ((x - a) + (a - x) + sizeD x l)
    rw [List.length_append, stepB_length, stepsB_length l x]
    omega
theorem showD_length (l : List Nat) : (showD l).length = 5 + l.length + 2 * sizeD (l.getD 0 0) l := by
  unfold showD
  rw [List.length_append, bitsN_length, stepsB_length]
  omega
theorem sizeD_le : ∀ (l : List Nat) (a : Nat), a ≤ 20 → (∀ x ∈ l, x ≤ 20) → sizeD a l ≤ 20 * l.length
  | [], _, _, _ => Nat.le_refl _
  | x :: l, a, ha, h => by
    have hx := h x (List.mem_cons_self ..)
    have := sizeD_le l x hx fun y hy => h y (List.mem_cons_of_mem _ hy)
    show (x - a) + (a - x) + sizeD x l ≤ 20 * (l.length + 1)
    omega
theorem first_in {l : List Nat} (h0 : 0 < l.length) (h : ∀ x ∈ l, 1 ≤ x ∧ x ≤ 20) : 1 ≤ l.getD 0 0 ∧ l.getD 0 0 ≤ 20 := by
  refine h _ ?_
  rw [List.getD_eq_getElem?_getD, List.getElem?_eq_getElem h0]
  exact List.getElem_mem h0
end Go.Proofs.Ytmgmgmbpldboiaa
namespace Go.Proofs.Ytmgmgmbpldboiaa
open Go.RowKit

/-- What Flat answers: refused, or the lengths. -/
def FlatPost (w : World) (L : List Int) (e : Ending) (w' : World) : Prop :=
  (¬ MayW L ∧ ∃ v, e = .returned (.tuple #[v, .int .i64 2]) ∧ w'.ownsRow w.heap.size 3 1 v 0 [] ∧ Below w.heap.size w w') ∨
  (MayW L ∧ ∃ v k, 2 ^ k ≤ L.length ∧ L.length < 2 ^ (k + 1) ∧ e = .returned (.tuple #[v, .int .i64 0]) ∧ w'.ownsRow w.heap.size 3 1 v L.length (rowF L.length (flatLen k (2 ^ (k + 1) - L.length) (oneL L))) ∧ Below w.heap.size w w')

end Go.Proofs.Ytmgmgmbpldboiaa
namespace Go.Proofs.Ytmgmgmbpldboiaa

/-- A list may be, for n symbols. -/
def MayG (L : List Int) (n : Int) : Prop := 3 ≤ n ∧ n ≤ 258 ∧ 1 ≤ L.length ∧ L.length ≤ 1638350 ∧ ∀ x ∈ L, 0 ≤ x ∧ x < n
instance (L : List Int) (n : Int) : Decidable (MayG L n) := inferInstanceAs (Decidable (_ ∧ _))
/-- A plan may be. -/
def MayPlan (T : List (List Int)) (P : List Int) : Prop :=
  2 ≤ T.length ∧ T.length ≤ 6 ∧ 1 ≤ P.length ∧ P.length ≤ 32767 ∧ (∀ t ∈ T, t.length = (T.getD 0 []).length ∧ LenOk t) ∧ (∀ x ∈ P, 0 ≤ x ∧ x < (T.length : Int)) ∧ 3 ≤ (T.getD 0 []).length
instance (T : List (List Int)) (P : List Int) : Decidable (MayPlan T P) := inferInstanceAs (Decidable (_ ∧ _))

/-- How often a symbol stands in the groups that picked table t, among the first q ones. -/
def countQ (L P : List Nat) (t s q : Nat) : Nat := (List.range q).countP fun i => decide (P.getD (i / 50) 0 = t ∧ L.getD i 0 = s)
set_option maxRecDepth 100000 in
theorem countQ_next (L P : List Nat) (t s q : Nat) : countQ L P t s (q + 1) = countQ L P t s q + if P.getD (q / 50) 0 = t ∧ L.getD q 0 = s then 1 else 0 := by
  unfold countQ
  rw [List.range_succ, List.countP_append, List.countP_singleton]
  simp only [decide_eq_true_eq]
def countF (L P : List Nat) (t s : Nat) : Nat := countQ L P t s L.length
def countsG (L P : List Nat) (t n : Nat) : List Nat := (List.range n).map (countF L P t)

/-- Weights, 0 as 1. -/
def oneW (W : List Nat) : List Nat := W.map fun x => max x 1
set_option maxRecDepth 100000 in
theorem oneW_cast (W : List Nat) : oneL (W.map fun (x : Nat) => (x : Int)) = oneW W := by
  unfold oneL oneW
  apply List.ext_getElem?
  intro i
  by_cases h : i < W.length
  · rw [List.getElem?_map, List.getElem?_range (by simpa using h), List.getElem?_map, List.getElem?_eq_getElem h]
    simp only [Option.map_some, oneF]
    rw [List.getD_eq_getElem?_getD, List.getElem?_map, List.getElem?_eq_getElem h]
    rfl
  · rw [List.getElem?_eq_none (by simp; omega), List.getElem?_eq_none (by simp; omega)]
/-- The table of Flat. -/
def flatG (W : List Nat) : List Nat := (List.range W.length).map (flatLen (Nat.log2 W.length) (2 ^ (Nat.log2 W.length + 1) - W.length) (oneW W))
theorem log_one {n k : Nat} (h1 : 2 ^ k ≤ n) (h2 : n < 2 ^ (k + 1)) : k = Nat.log2 n := by
  have hn : n ≠ 0 := by
    have : 0 < 2 ^ k := Nat.two_pow_pos k
    omega
  have h3 : Nat.log2 n < k + 1 := (Nat.log2_lt hn).2 h2
  have h4 : ¬ Nat.log2 n < k := fun h => by
    have := (Nat.log2_lt hn).1 h
    omega
  omega

/-- A plan's bits. -/
def planB (T : List (List Nat)) (P : List Nat) : List Nat := bitsN T.length 3 ++ bitsN P.length 15 ++ putPicks [0, 1, 2, 3, 4, 5] P ++ T.flatMap showD
end Go.Proofs.Ytmgmgmbpldboiaa
