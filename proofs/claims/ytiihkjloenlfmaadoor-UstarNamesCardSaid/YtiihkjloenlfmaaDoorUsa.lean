/- Ustar: plain: what a header is; the reference's Zero, laid, number. Written ahead of stage 16. -/
import Derived.Test.YtiihkjloenlfmaaDoorFdd
import Derived.Test.YtiihkjloenlfmaaDoorPtd
namespace Go.Proofs.YtiihkjloenlfmaaDoor
open Go.RowKit

/-- A head. -/
structure HeadP where
  path : ByteArray
  size : Int
  kind : Nat
  mode : Int
  time : Int
  link : ByteArray
  user : ByteArray
  group : ByteArray
  uid : Int
  gid : Int
/-- A head, cell by cell. -/
def headCs (h : HeadP) : Array Value := #[.string h.path, .int .i64 h.size, .int .u8 h.kind, .int .i64 h.mode, .int .i64 h.time, .string h.link, .string h.user, .string h.group, .int .i64 h.uid, .int .i64 h.gid]
def headV (h : HeadP) : Value := .agg (headCs h)
def textOk (s : List UInt8) : Prop := cutZ s = s
instance (s : List UInt8) : Decidable (textOk s) := by unfold textOk; infer_instance
def smallOk (n : Int) : Prop := 0 ≤ n ∧ n ≤ 2097151
instance (n : Int) : Decidable (smallOk n) := by unfold smallOk; infer_instance
def greatOk (n : Int) : Prop := 0 ≤ n ∧ n ≤ 8589934591
instance (n : Int) : Decidable (greatOk n) := by unfold greatOk; infer_instance
/-- May a header be, but for its path's length? -/
def mayA (h : HeadP) : Prop :=
  (h.kind = 48 ∨ h.kind = 53 ∨ h.kind = 120 ∨ h.kind = 103) ∧
  (h.path.size ≤ 1099511627776 ∧ textOk h.path.data.toList) ∧ (h.link.size ≤ 100 ∧ textOk h.link.data.toList) ∧ (h.user.size ≤ 31 ∧ textOk h.user.data.toList) ∧ (h.group.size ≤ 31 ∧ textOk h.group.data.toList) ∧
  smallOk h.mode ∧ smallOk h.uid ∧ smallOk h.gid ∧ greatOk h.size ∧ greatOk h.time
instance (h : HeadP) : Decidable (mayA h) := by unfold mayA; infer_instance
/-- What Zero answers. -/
def allZ (s : List UInt8) : Bool := s.all fun c => decide (c = 0)
def zeroA (s : List UInt8) : Bool := allZ s && decide (s.length = 512)

set_option maxHeartbeats 1600000 in
set_option maxRecDepth 100000 in
theorem rzero_any (w : World) (t : ByteArray) (hs : t.size ≤ 9223372036854775807) : Calls Tryd.prog 15 #[.string t] w fun e w' => e = .returned (.bool (zeroA t.data.toList)) ∧ w' = w := by
  have HP : Hid (∀ (b : Bool) (w' : World), zeroA t.data.toList = b → w' = w → (fun e w' => e = Ending.returned (.bool (zeroA t.data.toList)) ∧ w' = w) (.returned (.bool b)) w') := Lib.hid fun b w' h hb => ⟨by rw [h], hb⟩
  generalize (fun e w' => e = Ending.returned (.bool (zeroA t.data.toList)) ∧ w' = w) = PO at *
  obtain ⟨S, hS⟩ : ∃ S, S = t.data.toList := ⟨_, rfl⟩
  have HS := Lib.hid hS
  have HLL := Lib.hid (show S.length = t.size by rw [hS]; rfl)
  rw [← hS] at HP
  clear hS
  go_enter Tryd.func15, Tryd.ntmps15
  go_wp2_with fail
  go_loopw [3] (fun si wx => ∃ q : Nat, si = .int .i64 q ∧ q ≤ t.size ∧ wx = w ∧ Hid (allZ S = allZ (S.drop q))) (fun si _ => t.size - (intOf si).toNat)
  case atStart => exact ⟨0, rfl, Nat.zero_le _, rfl, Lib.hid rfl⟩
  case round =>
    obtain ⟨q, rfl, hq, rfl, hJ⟩ := hrel
    by_cases e : q < t.size
    · have dq : decide ((q : Int) < (t.size : Int)) = true := decide_eq_true (by omega)
      have hqz : (q : Int) < t.size := by omega
      have hqS : q < S.length := by rw [HLL.out]; exact e
      have hby := fbyte t q e
      rw [← HS.out] at hby
      have hdr : S.drop q = S.getD q 0 :: S.drop (q + 1) := by
        rw [List.drop_eq_getElem_cons hqS, List.getD_eq_getElem?_getD, List.getElem?_eq_getElem hqS]
        rfl
      have hj := hJ.out
      rw [hdr, hby] at hj
      by_cases e2 : t[q] = 0
      · have f : ((((t[q]).toNat : Nat) : Int) != 0) = false := by rw [e2]; rfl
        have HJ2 := Lib.hid (show allZ S = allZ (S.drop (q + 1)) by rw [hj, e2]; rfl)
        clear hj hJ hby hdr e2
        go_wp2_with fail
        go_roundw
        case rel => exact ⟨q + 1, by go_num, by omega, by first | rfl | trivial, HJ2⟩
        case measure => simp [intOf]; omega
      · have f : ((((t[q]).toNat : Nat) : Int) != 0) = true := by
          refine bne_iff_ne.2 fun h => e2 ?_
          apply UInt8.toNat_inj.1
          show (t[q]).toNat = 0
          omega
        have HF := Lib.hid (HP.out false wr (by
          unfold zeroA
          rw [hj]
          show (decide (t[q] = 0) && allZ (S.drop (q + 1)) && _) = false
          rw [decide_eq_false e2]
          rfl) rfl)
        clear hj hJ hby hdr e2
        go_wp2_with fail
        exact HF.out
    · have hqe : q = t.size := by omega
      have dq : decide ((q : Int) < (t.size : Int)) = false := decide_eq_false (by omega)
      have hj := hJ.out
      rw [List.drop_of_length_le (by rw [HLL.out, hqe]; exact Nat.le_refl _)] at hj
      by_cases e3 : t.size = 512
      · have f : ((t.size : Int) == 512) = true := beq_iff_eq.2 (by omega)
        have HF := Lib.hid (HP.out true wr (by
          unfold zeroA
          rw [hj, HLL.out, decide_eq_true e3]
          rfl) rfl)
        clear hj hJ hqe e3
        go_wp2_with fail
        exact HF.out
      · have f : ((t.size : Int) == 512) = false := beq_false_of_ne (by omega)
        have HF := Lib.hid (HP.out false wr (by
          unfold zeroA
          rw [decide_eq_false (show ¬ S.length = 512 by rw [HLL.out]; exact e3), Bool.and_false]) rfl)
        clear hj hJ hqe e3
        go_wp2_with fail
        exact HF.out
set_option maxRecDepth 100000 in
theorem rlaid_any (w : World) (t : ByteArray) (width : Int) (hs : t.size ≤ 9223372036854775807) (h3 : -9223372036854775808 ≤ width) (h4 : width ≤ 9223372036854775807) :
    Calls Tryd.prog 26 #[.string t, .int .i64 width] w fun e w' => e = .returned (.string (strF (textA t.data.toList width).1)) ∧ w' = w := by
  have HC := Lib.hid (rtext_any w t width hs h3 h4)
  go_enter Tryd.func26, Tryd.ntmps26
  go_wp2_with fail
  refine HC.out.mono ?_
  rintro e w1 ⟨rfl, rfl⟩
  go_wp2_with fail
  go_ret
  exact ⟨rfl, rfl⟩
set_option maxRecDepth 100000 in
theorem rnumber16_any (w : World) (n width : Int) (h1 : -9223372036854775808 ≤ n) (h2 : n ≤ 9223372036854775807) (h3 : -9223372036854775808 ≤ width) (h4 : width ≤ 9223372036854775807) :
    Calls Tryd.prog 27 #[.int .i64 n, .int .i64 width] w fun e w' => e = .returned (.string (strF (octalA n width).1)) ∧ w' = w := by
  have HC := Lib.hid (roctal_any w n width h1 h2 h3 h4)
  go_enter Tryd.func27, Tryd.ntmps27
  go_wp2_with fail
  refine HC.out.mono ?_
  rintro e w1 ⟨rfl, rfl⟩
  go_wp2_with fail
  go_ret
  exact ⟨rfl, rfl⟩
end Go.Proofs.YtiihkjloenlfmaaDoor
