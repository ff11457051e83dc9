/- The reference of fields: cut, Number, Decimal, Text. Written ahead of stage 15. -/
import Derived.Test.YtiihkjloenlfmaaDoorFdb
namespace Go.Proofs.YtiihkjloenlfmaaDoor
open Go.RowKit

def strLen : Value → Nat
  | .string t => t.size
  | _ => 0
set_option maxRecDepth 100000 in
theorem cut_len (a b : Nat) : ∀ s : List UInt8, (cutF a b s).length ≤ s.length
  | [] => Nat.le_refl _
  | c :: s => by
    rw [cutF]
    split
    · exact Nat.le_trans (cut_len a b s) (by simp)
    · exact Nat.le_refl _
set_option maxRecDepth 100000 in
theorem num_len : ∀ (s : List UInt8) (n : Nat), (numF s n).2.length ≤ s.length
  | [], _ => Nat.le_refl _
  | c :: s, n => by
    rw [numF]
    split
    · exact Nat.le_trans (num_len s _) (by simp)
    · exact Nat.le_refl _

set_option maxHeartbeats 1600000 in
set_option maxRecDepth 100000 in
theorem rcut_any (w : World) (S : List UInt8) (a b : Nat) (hs : S.length ≤ 9223372036854775807) : Calls Tryd.prog 42 #[.string (strF S), .int .u8 a, .int .u8 b] w fun e w' => e = .returned (.string (strF (cutF a b S))) ∧ w' = w := by
  have HP : Hid (∀ (X : List UInt8) (w' : World), cutF a b S = X → w' = w → (fun e w' => e = Ending.returned (.string (strF (cutF a b S))) ∧ w' = w) (.returned (.string (strF X))) w') := Lib.hid fun X w' h hb => ⟨by rw [h], hb⟩
  generalize (fun e w' => e = Ending.returned (.string (strF (cutF a b S))) ∧ w' = w) = PO at *
  go_enter Tryd.func42, Tryd.ntmps42
  go_wp2_with fail
  go_loopw [0] (fun ss wx => ∃ L : List UInt8, ss = .string (strF L) ∧ L.length ≤ 9223372036854775807 ∧ wx = w ∧ Hid (cutF a b S = cutF a b L)) (fun ss _ => strLen ss)
  case atStart => exact ⟨S, rfl, hs, rfl, Lib.hid rfl⟩
  case round =>
    obtain ⟨L, rfl, hL, rfl, hJ⟩ := hrel
    cases L with
    | nil =>
      have HF := Lib.hid (HP.out [] wr hJ.out rfl)
      have hn : strF ([] : List UInt8) = ⟨#[]⟩ := rfl
      rw [hn] at *
      go_wp2_with fail
      exact HF.out
    | cons c r =>
      have hj := hJ.out
      rw [cutF] at hj
      have hsz : (strF (c :: r)).size = r.length + 1 := rfl
      have h0 : 0 < (strF (c :: r)).size := by omega
      have hb0 : (strF (c :: r))[0]'h0 = c := rfl
      have hd := fext_drop (c :: r) 1
      have hd : (strF (c :: r)).extract 1 (strF (c :: r)).size = strF r := hd
      have HD := Lib.hid hd
      have HR := Lib.hid (show r.length ≤ 9223372036854775807 by rw [List.length_cons] at hL; omega)
      have HSZ := Lib.hid hsz
      have HB := Lib.hid hb0
      have hcx : c.toNat < 256 := UInt8.toNat_lt c
      have HFN := Lib.hid fun (h : cutF a b S = c :: r) => HP.out (c :: r) wr h rfl
      have HM : Hid (strLen (.string (strF r)) < strLen (.string (strF (c :: r)))) := Lib.hid (by
        show (strF r).size < (strF (c :: r)).size
        rw [hsz, strF_size]
        omega)
      have hsb : (strF (c :: r)).size ≤ 9223372036854775807 := by rw [hsz]; exact hL
      generalize hT : strF (c :: r) = T at *
      have g0 : decide ((0 : Int) < (T.size : Int)) = true := decide_eq_true (by omega)
      have z1 : (1 : Int) ≤ (T.size : Int) := by omega
      have z0 : (0 : Int) < (T.size : Int) := by omega
      clear hJ hd hsz hT hL
      by_cases e1 : c.toNat = a
      · have f1 : ((((T[0]'h0).toNat : Nat) : Int) == (a : Int)) = true := by rw [hb0]; exact beq_iff_eq.2 (by omega)
        rw [if_pos (.inl e1)] at hj
        have HJ := Lib.hid hj
        clear hj hb0 e1
        go_wp2_with fail
        go_roundw
        case rel => exact ⟨r, by rw [← HD.out], HR.out, by first | rfl | trivial, HJ⟩
        case measure => exact HM.out
      · have f1 : ((((T[0]'h0).toNat : Nat) : Int) == (a : Int)) = false := by rw [hb0]; exact beq_false_of_ne (by omega)
        by_cases e2 : c.toNat = b
        · have f2 : ((((T[0]'h0).toNat : Nat) : Int) == (b : Int)) = true := by rw [hb0]; exact beq_iff_eq.2 (by omega)
          rw [if_pos (.inr e2)] at hj
          have HJ := Lib.hid hj
          clear hj hb0 e1 e2
          go_wp2_with fail
          go_roundw
          case rel => exact ⟨r, by rw [← HD.out], HR.out, by first | rfl | trivial, HJ⟩
          case measure => exact HM.out
        · have f2 : ((((T[0]'h0).toNat : Nat) : Int) == (b : Int)) = false := by rw [hb0]; exact beq_false_of_ne (by omega)
          rw [if_neg (fun h => h.elim e1 e2)] at hj
          have HF := Lib.hid (HFN.out hj)
          clear hj hb0 e1 e2
          go_wp2_with fail
          exact HF.out

set_option maxHeartbeats 3200000 in
set_option maxRecDepth 100000 in
theorem rnumber_any (w : World) (t : ByteArray) (hs : t.size ≤ 9223372036854775807) : Calls Tryd.prog 33 #[.string t] w fun e w' => e = .returned (.tuple #[.int .i64 (numberA t.data.toList).1, .int .i64 (numberA t.data.toList).2]) ∧ w' = w := by
  have HP : Hid (∀ (n k : Nat) (w' : World), numberA t.data.toList = (n, k) → w' = w → (fun e w' => e = Ending.returned (.tuple #[.int .i64 (numberA t.data.toList).1, .int .i64 (numberA t.data.toList).2]) ∧ w' = w) (.returned (.tuple #[.int .i64 n, .int .i64 k])) w') := Lib.hid fun n k w' h hb => ⟨by rw [h], hb⟩
  generalize (fun e w' => e = Ending.returned (.tuple #[.int .i64 (numberA t.data.toList).1, .int .i64 (numberA t.data.toList).2]) ∧ w' = w) = PO at *
  have hdef : numberA t.data.toList = if cutF 32 0 (numF (cutF 32 32 t.data.toList) 0).2 ≠ [] then (0, 150)
    else if 9007199254740992 < (numF (cutF 32 32 t.data.toList) 0).1 then (0, 3)
    else ((numF (cutF 32 32 t.data.toList) 0).1, 0) := rfl
  have hll : t.data.toList.length = t.size := rfl
  have HC1 := rcut_any w t.data.toList 32 32 (by rw [hll]; exact hs)
  rw [strF_self] at HC1
  have HC1 : Hid (Calls Tryd.prog 42 #[.string t, .int .u8 32, .int .u8 32] w fun e w' => e = .returned (.string (strF (cutF 32 32 t.data.toList))) ∧ w' = w) := Lib.hid HC1
  have HC2 : Hid (∀ (wx : World) (L : List UInt8), L.length ≤ 9223372036854775807 → Calls Tryd.prog 42 #[.string (strF L), .int .u8 32, .int .u8 0] wx fun e w' => e = .returned (.string (strF (cutF 32 0 L))) ∧ w' = wx) := Lib.hid fun wx L hL => rcut_any wx L 32 0 hL
  have hcl := cut_len 32 32 t.data.toList
  rw [hll] at hcl
  generalize numberA t.data.toList = ans at *
  generalize cutF 32 32 t.data.toList = L0 at *
  have HD := Lib.hid hdef
  have hL0 : L0.length ≤ 9223372036854775807 := by omega
  clear hdef hll hcl
  go_enter Tryd.func33, Tryd.ntmps33
  go_wp2_with fail
  refine HC1.out.mono ?_
  rintro e w1 ⟨rfl, rfl⟩
  go_wp2_with fail
  go_loopw [0, 4] (fun ss sn wx => ∃ (L : List UInt8) (n : Nat), ss = .string (strF L) ∧ sn = .int .i64 n ∧ L.length ≤ 9223372036854775807 ∧ n ≤ 72057594037927943 ∧ wx = w1 ∧ Hid (numF L0 0 = numF L n)) (fun ss _ _ => strLen ss)
  case atStart => exact ⟨L0, 0, rfl, rfl, hL0, Nat.zero_le _, rfl, Lib.hid rfl⟩
  case round =>
    obtain ⟨L, n, rfl, rfl, hL, hn, rfl, hJ⟩ := hrel
    have HCN0 := HC2.out wr L hL
    obtain ⟨E, hE⟩ : ∃ E, E = strF (cutF 32 0 L) := ⟨_, rfl⟩
    rw [← hE] at HCN0
    have HCN := Lib.hid HCN0
    have HE : Hid ((cutF 32 0 L ≠ [] → E.toList.isEmpty = false) ∧ (cutF 32 0 L = [] → E.toList.isEmpty = true)) := Lib.hid (by
      rw [hE, strF_toList]
      constructor
      · intro h
        cases hx : cutF 32 0 L with
        | nil => exact absurd hx h
        | cons _ _ => rfl
      · intro h
        rw [h]
        rfl)
    have stop : numF L n = (n, L) → ans = if cutF 32 0 L ≠ [] then (0, 150) else if 9007199254740992 < n then (0, 3) else (n, 0) := fun h => by rw [HD.out, hJ.out, h]
    by_cases g0 : L = []
    · have hans := stop (by rw [g0]; rfl)
      have hn : strF ([] : List UInt8) = ⟨#[]⟩ := rfl
      rw [g0, hn] at HCN ⊢
      clear stop hE HCN0 g0 hJ
      by_cases g5 : cutF 32 0 L ≠ []
      · have f5 : E.toList.isEmpty = false := HE.out.1 g5
        rw [if_pos g5] at hans
        have HF := Lib.hid (HP.out 0 150 wr hans rfl)
        clear hans g5
        go_wp2_with fail
        refine HCN.out.mono ?_
        rintro e w2 ⟨rfl, rfl⟩
        go_wp2_with fail
        exact HF.out
      · have f5 : E.toList.isEmpty = true := HE.out.2 (Decidable.not_not.1 g5)
        rw [if_neg g5] at hans
        by_cases g6 : 9007199254740992 < n
        · have f6 : decide ((9007199254740992 : Int) < (n : Int)) = true := decide_eq_true (by omega)
          rw [if_pos g6] at hans
          have HF := Lib.hid (HP.out 0 3 wr hans rfl)
          clear hans g5 g6
          go_wp2_with fail
          refine HCN.out.mono ?_
          rintro e w2 ⟨rfl, rfl⟩
          go_wp2_with fail
          exact HF.out
        · have f6 : decide ((9007199254740992 : Int) < (n : Int)) = false := decide_eq_false (by omega)
          rw [if_neg g6] at hans
          have HF := Lib.hid (HP.out n 0 wr hans rfl)
          clear hans g5 g6
          go_wp2_with fail
          refine HCN.out.mono ?_
          rintro e w2 ⟨rfl, rfl⟩
          go_wp2_with fail
          exact HF.out
    · have hpos : 0 < L.length := List.length_pos_iff.2 g0
      obtain ⟨c, r, hcr⟩ : ∃ c r, L = c :: r := by
        cases L with
        | nil => exact absurd rfl g0
        | cons c r => exact ⟨c, r, rfl⟩
      obtain ⟨T, hT⟩ : ∃ T, T = strF L := ⟨_, rfl⟩
      have hsz : T.size = L.length := by rw [hT, strF_size]
      have h0 : 0 < T.size := by omega
      have hb0 : T[0]'h0 = c := by
        have h := fbyte T 0 h0
        rw [← h, hT, strF_list, hcr]
        rfl
      have f0 : decide ((0 : Int) < (T.size : Int)) = true := decide_eq_true (by omega)
      have z0 : (0 : Int) < (T.size : Int) := by omega
      have z1 : (1 : Int) ≤ (T.size : Int) := by omega
      have hsb : T.size ≤ 9223372036854775807 := by omega
      have hnum : numF L n = if 48 ≤ c.toNat ∧ c.toNat ≤ 55 then numF r (if n ≤ 9007199254740992 then 8 * n + (c.toNat - 48) else n) else (n, L) := by
        rw [hcr, numF]
      have hx := UInt8.toNat_lt (T[0]'h0)
      have hd : T.extract 1 T.size = strF r := by
        have h := fext_drop L 1
        rw [← hT, hcr] at h
        exact h
      have HDR := Lib.hid hd
      have HSZ := Lib.hid hsz
      have HLR := Lib.hid (show L.length = r.length + 1 by rw [hcr, List.length_cons])
      rw [← hT] at HCN ⊢
      rw [← hb0] at hnum
      by_cases g1 : 48 ≤ (T[0]'h0).toNat
      · have f1 : decide ((48 : Int) ≤ ((T[0]'h0).toNat : Int)) = true := decide_eq_true (by omega)
        by_cases g2 : (T[0]'h0).toNat ≤ 55
        · have f2 : decide (((T[0]'h0).toNat : Int) ≤ 55) = true := decide_eq_true (by omega)
          rw [if_pos ⟨g1, g2⟩] at hnum
          obtain ⟨y, hy⟩ : ∃ y, y = (T[0]'h0).toNat - 48 := ⟨_, rfl⟩
          have hyz : ((T[0]'h0).toNat : Int) - 48 = (y : Int) := by omega
          have hy7 : y ≤ 7 := by omega
          rw [← hy] at hnum
          by_cases g3 : n ≤ 9007199254740992
          · have f3 : decide ((n : Int) ≤ 9007199254740992) = true := decide_eq_true (by omega)
            rw [if_pos g3] at hnum
            obtain ⟨k, hk⟩ : ∃ k, k = 8 * n := ⟨_, rfl⟩
            have hkz : (8 : Int) * (n : Int) = (k : Int) := by omega
            obtain ⟨m, hm⟩ : ∃ m, m = k + y := ⟨_, rfl⟩
            have hmz : (k : Int) + (y : Int) = (m : Int) := by omega
            have hmb : m ≤ 72057594037927943 := by omega
            have HJ2 := Lib.hid (show numF L0 0 = numF r m by rw [hJ.out, hnum, hm, hk])
            have HRB := Lib.hid (show r.length ≤ 9223372036854775807 by have := HLR.out; omega)
            have HMS : Hid (strLen (.string (strF r)) < strLen (.string T)) := Lib.hid (by
              show (strF r).size < T.size
              rw [strF_size]
              have := HLR.out
              omega)
            clear stop hE HCN0 hT hnum hd hb0 hy hk hm hJ hcr hpos g1 g2 g3 hsz
            go_wp2_with fail
            go_roundw
            case rel => exact ⟨r, m, by rw [← HDR.out], by first | rfl | rw [hmz], HRB.out, hmb, by first | rfl | trivial, HJ2⟩
            case measure => first | exact HMS.out | (rw [HDR.out]; exact HMS.out)
          · have f3 : decide ((n : Int) ≤ 9007199254740992) = false := decide_eq_false (by omega)
            rw [if_neg g3] at hnum
            have HJ2 := Lib.hid (show numF L0 0 = numF r n by rw [hJ.out, hnum])
            have HRB := Lib.hid (show r.length ≤ 9223372036854775807 by have := HLR.out; omega)
            have HMS : Hid (strLen (.string (strF r)) < strLen (.string T)) := Lib.hid (by
              show (strF r).size < T.size
              rw [strF_size]
              have := HLR.out
              omega)
            clear stop hE HCN0 hT hnum hd hb0 hy hJ hcr hpos g1 g2 g3 hsz
            go_wp2_with fail
            go_roundw
            case rel => exact ⟨r, n, by rw [← HDR.out], rfl, HRB.out, hn, by first | rfl | trivial, HJ2⟩
            case measure => first | exact HMS.out | (rw [HDR.out]; exact HMS.out)
        · have f2 : decide (((T[0]'h0).toNat : Int) ≤ 55) = false := decide_eq_false (by omega)
          rw [if_neg (fun h => g2 h.2)] at hnum
          have hans := stop hnum
          clear stop hE HCN0 hT hnum hd hb0 hJ hcr hpos g1 g2 hsz
          by_cases g5 : cutF 32 0 L ≠ []
          · have f5 : E.toList.isEmpty = false := HE.out.1 g5
            rw [if_pos g5] at hans
            have HF := Lib.hid (HP.out 0 150 wr hans rfl)
            clear hans g5
            go_wp2_with fail
            refine HCN.out.mono ?_
            rintro e w2 ⟨rfl, rfl⟩
            go_wp2_with fail
            exact HF.out
          · have f5 : E.toList.isEmpty = true := HE.out.2 (Decidable.not_not.1 g5)
            rw [if_neg g5] at hans
            by_cases g6 : 9007199254740992 < n
            · have f6 : decide ((9007199254740992 : Int) < (n : Int)) = true := decide_eq_true (by omega)
              rw [if_pos g6] at hans
              have HF := Lib.hid (HP.out 0 3 wr hans rfl)
              clear hans g5 g6
              go_wp2_with fail
              refine HCN.out.mono ?_
              rintro e w2 ⟨rfl, rfl⟩
              go_wp2_with fail
              exact HF.out
            · have f6 : decide ((9007199254740992 : Int) < (n : Int)) = false := decide_eq_false (by omega)
              rw [if_neg g6] at hans
              have HF := Lib.hid (HP.out n 0 wr hans rfl)
              clear hans g5 g6
              go_wp2_with fail
              refine HCN.out.mono ?_
              rintro e w2 ⟨rfl, rfl⟩
              go_wp2_with fail
              exact HF.out
      · have f1 : decide ((48 : Int) ≤ ((T[0]'h0).toNat : Int)) = false := decide_eq_false (by omega)
        rw [if_neg (fun h => g1 h.1)] at hnum
        have hans := stop hnum
        clear stop hE HCN0 hT hnum hd hb0 hJ hcr hpos g1 hsz
        by_cases g5 : cutF 32 0 L ≠ []
        · have f5 : E.toList.isEmpty = false := HE.out.1 g5
          rw [if_pos g5] at hans
          have HF := Lib.hid (HP.out 0 150 wr hans rfl)
          clear hans g5
          go_wp2_with fail
          refine HCN.out.mono ?_
          rintro e w2 ⟨rfl, rfl⟩
          go_wp2_with fail
          exact HF.out
        · have f5 : E.toList.isEmpty = true := HE.out.2 (Decidable.not_not.1 g5)
          rw [if_neg g5] at hans
          by_cases g6 : 9007199254740992 < n
          · have f6 : decide ((9007199254740992 : Int) < (n : Int)) = true := decide_eq_true (by omega)
            rw [if_pos g6] at hans
            have HF := Lib.hid (HP.out 0 3 wr hans rfl)
            clear hans g5 g6
            go_wp2_with fail
            refine HCN.out.mono ?_
            rintro e w2 ⟨rfl, rfl⟩
            go_wp2_with fail
            exact HF.out
          · have f6 : decide ((9007199254740992 : Int) < (n : Int)) = false := decide_eq_false (by omega)
            rw [if_neg g6] at hans
            have HF := Lib.hid (HP.out n 0 wr hans rfl)
            clear hans g5 g6
            go_wp2_with fail
            refine HCN.out.mono ?_
            rintro e w2 ⟨rfl, rfl⟩
            go_wp2_with fail
            exact HF.out
end Go.Proofs.YtiihkjloenlfmaaDoor
