/- The law SymbolsBack, for a text that is not empty, walked over what is asked of the code's functions. -/
import Derived.Test.YtcmhcfbmjceioaaJp
namespace Go.Proofs.Ytcmhcfbmjceioaa
open Go.RowKit

section
variable (R : SymDone)
include R

set_option maxHeartbeats 3200000 in
set_option maxRecDepth 100000 in
theorem sback_walk (w : World) (s a : ByteArray) (h0 : 0 < s.size) (hs : s.size ≤ 5000) (ha : a.size ≤ 5000) : Calls Try.prog 8 #[.string s, .string a] w fun e w' => e = .returned (.bool true) ∧ Below w.heap.size w w' := by
  have HAW := Lib.hid (awake_any R)
  have hne := not_empty s h0
  have d1 : decide ((5000 : Int) < (s.size : Int)) = false := decide_eq_false (by omega)
  have d2 : decide ((5000 : Int) < (a.size : Int)) = false := decide_eq_false (by omega)
  obtain ⟨l, hans, hfr, hll⟩ := frontAns_of s.data.toList (list_ne s h0)
  have hmay := mayL_of s.data.toList (list_ne s h0)
  have hsl : s.data.toList.length = s.size := rfl
  rw [hsl] at hll
  have HO := Lib.hid (R.of w s (by omega))
  obtain ⟨u, hu⟩ : ∃ u, u = strB (ofL s.data.toList) := ⟨_, rfl⟩
  have hud : u.data.toList = ofL s.data.toList := by rw [hu]; rfl
  have hus : u.size ≤ 256 := by rw [hu]; exact ofL_size s.data.toList
  rw [← hu] at HO
  rw [← hud] at hans hfr hmay
  have hbk : backAns (l.map fun (x : Nat) => (x : Int)) u.data.toList = (s.data.toList, 0) := by
    unfold backAns
    rw [if_pos hmay, back_front s.data.toList u.data.toList l hfr]
  have HF := Lib.hid fun w1 : World => R.front w1 s u (by omega) (by omega)
  have hsh := fun w1 : World => R.shows w1 u (by omega) hmay
  have HB := Lib.hid fun (w1 : World) (A : Option Addr) (c : Nat) (hz : ZIn w1 A s.size (l.map fun (x : Nat) => (x : Int))) (hc : s.size ≤ c) => R.back w1 A s.size c (l.map fun (x : Nat) => (x : Int)) u hz hc (by omega) (by omega)
  obtain ⟨T, hT⟩ : ∃ T : ByteArray, T = ⟨(pack (showL u.data.toList)).toArray⟩ := ⟨_, rfl⟩
  obtain ⟨n, hn⟩ : ∃ n, n = (showL u.data.toList).length := ⟨_, rfl⟩
  obtain ⟨r, hr, hrl⟩ := show_length u.data.toList
  have hn272 : n ≤ 272 := by omega
  have hTs : T.size ≤ 40 := by
    rw [hT]
    show (pack (showL u.data.toList)).toArray.size ≤ 40
    rw [List.size_toArray, pack_length]
    omega
  unfold ShowPost at hsh
  rw [← hT, ← hn] at hsh
  have HS := Lib.hid hsh
  obtain ⟨t, ht⟩ : ∃ t : ByteArray, t = a ++ T := ⟨_, rfl⟩
  have hts : t.size = a.size + T.size := by rw [ht, ByteArray.size_append]
  have htd : t.data.toList = a.data.toList ++ pack (showL u.data.toList) := by
    rw [ht, ByteArray.data_append, Array.toList_append, hT]
  have htk : takeAns (bitsB t.data.toList) ((8 * a.size : Nat) : Int) = (u.data.toList, 8 * a.size + n, 0) := by
    unfold takeAns
    rw [if_neg (by omega), Int.toNat_natCast, htd, hn]
    exact take_text a.data.toList u.data.toList hmay
  have hta := fun w1 : World => R.take w1 t ((8 * a.size : Nat) : Int) (by omega) (by omega) (by omega)
  unfold TakePost at hta
  rw [htk] at hta
  have hcat : ∀ w9 : World, (Op.stringOp .add a T).run Try.prog w9 = .ok (.string t) w9 := fun w9 => (run_string_add_sum w9 _ _ (by omega)).trans (by rw [ht])
  have huu : strB u.data.toList = u := strB_self u
  have hss : strB s.data.toList = s := strB_self s
  obtain ⟨q, hq⟩ : ∃ q, q = 8 * a.size := ⟨_, rfl⟩
  have hqz : (8 : Int) * (a.size : Int) = (q : Int) := by omega
  have hqz2 : (a.size : Int) * 8 = (q : Int) := by omega
  obtain ⟨z, hz⟩ : ∃ z, z = q + n := ⟨_, rfl⟩
  have hzz : (q : Int) + (n : Int) = (z : Int) := by omega
  rw [← hq, ← hz, huu] at hta
  have HTA := Lib.hid hta
  have HANS := Lib.hid hans
  have HBK := Lib.hid hbk
  have HLL := Lib.hid hll
  have HSS := Lib.hid hss
  have hq4 : q ≤ 40000 := by omega
  have hz4 : z ≤ 50000 := by omega
  clear hans hfr hll hmay hsl hu hud hbk hsh hT hn hrl hTs ht hts htd htk hta huu hss hq hz hr
  go_enter Try.func8, Try.ntmps8
  go_wp2_with fail
  refine HO.out.mono ?_
  rintro e w1 ⟨rfl, hb1⟩
  have HB1 := Lib.hid hb1
  clear hb1
  go_wp2_with fail
  refine (HF.out w1).mono ?_
  rintro e w2 ⟨v, L, c, ha2, rfl, hown, hb2⟩
  rw [HANS.out] at ha2
  simp only [Prod.mk.injEq] at ha2
  obtain ⟨rfl, rfl⟩ := ha2
  obtain ⟨A, k, rfl, hnk, _, _⟩ := own_slice hown
  have hin := ints_of_own hown
  rw [HLL.out] at hin hnk ⊢
  have HIN := Lib.hid hin
  have HB2 := Lib.hid (HB1.out.trans (hb2.mono HB1.out.size))
  clear hown hb2 hin
  go_wp2_with fail
  refine (HS.out w2).mono ?_
  rintro e w3 ⟨rfl, hb3⟩
  have HIN3 := Lib.hid (ints_low HIN.out hb3)
  have HB3 := Lib.hid (HB2.out.trans (hb3.mono HB2.out.size))
  have hz3 := HB3.out.size
  have HB4 := Lib.hid (HB3.out.alloc hz3 (.cells #[.string T, .int .i64 n] 39))
  have hk4 := blk_new w3 39 #[.string T, .int .i64 n]
  have HIN4 := Lib.hid (ints_low HIN3.out ((Below.refl _ w3).alloc (Nat.le_refl _) (.cells #[.string T, .int .i64 n] 39)))
  have HK4 := Lib.hid hk4
  clear hb3 hk4
  go_wp2_with fail
  have hbb := HB.out (w3.alloc (.cells #[.string T, .int .i64 n] 39)) A k (zin_of HIN4.out) hnk
  rw [HBK.out, HSS.out] at hbb
  refine hbb.mono ?_
  rintro e w5 ⟨rfl, hb5⟩
  have hk5 := (step_of_below hb5).blk HK4.out List.not_mem_nil List.not_mem_nil
  have HB5 := Lib.hid (HB4.out.trans (hb5.mono HB4.out.size))
  have c0 : w5.cell? ⟨w3.heap.size, 0, none⟩ = some (.string T) := blk_cell hk5 0
  have c1 : w5.cell? ⟨w3.heap.size, 1, none⟩ = some (.int .i64 n) := blk_cell hk5 1
  have hlt5 : w3.heap.size < w5.heap.size := blk_lt hk5
  clear hbb hb5 hk5
  go_wp2_with fail
  refine (HTA.out w5).mono ?_
  rintro e w6 ⟨rfl, hb6⟩
  have e0 := (hb6.cell (p := ⟨w3.heap.size, 0, none⟩) hlt5).trans c0
  have e1 := (hb6.cell (p := ⟨w3.heap.size, 1, none⟩) hlt5).trans c1
  have HB6 := Lib.hid (HB5.out.trans (hb6.mono HB5.out.size))
  have d5 : ((z : Int) == (z : Int)) = true := beq_self_eq_true _
  have d6 : ((s.size : Int) == (s.size : Int)) = true := beq_self_eq_true _
  clear hb6 c0 c1
  go_wp2_with fail
  refine (HAW.out w6).mono ?_
  rintro e w7 ⟨rfl, hb7⟩
  have HB7 := Lib.hid (HB6.out.trans (hb7.mono HB6.out.size))
  clear hb7
  go_wp2_with fail
  go_ret
  exact ⟨rfl, HB7.out⟩
end

end Go.Proofs.Ytcmhcfbmjceioaa
