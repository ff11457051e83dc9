/- Pax: plain: how the code reads a record: the first bytes, a pair, what they are made of; a text that begins with no record. -/
import Derived.Test.YtdjmfkodjjjhfaaGreatDoorPxj
import Derived.Test.YtdjmfkodjjjhfaaGreatDoorFwh
namespace Go.Proofs.YtdjmfkodjjjhfaaGreatDoor
open Go.RowKit

/-- What stands behind the first such byte. -/
def behindB (b : UInt8) (s : List UInt8) : List UInt8 := (s.dropWhile (· != b)).drop 1
def trimE (s : List UInt8) : List UInt8 := if s.getLast? = some 10 then s.dropLast else s
def cutR (s : List UInt8) : List UInt8 := if (decimalA (s.takeWhile (· != 32))).2 ≠ 0 ∨ s.length < (decimalA (s.takeWhile (· != 32))).1 then [] else s.take (decimalA (s.takeWhile (· != 32))).1
def pairR (x : List UInt8) : PairL := ((trimE (behindB 32 x)).takeWhile (· != 61), behindB 61 (trimE (behindB 32 x)))
def isR (x : List UInt8) : Prop := keyK (pairR x).1 ∧ recL (pairR x) = x
instance (x : List UInt8) : Decidable (isR x) := by unfold isR; exact inferInstance
set_option maxRecDepth 100000 in
theorem idx_in (b : UInt8) : ∀ s : List UInt8, b ∈ s → s.takeWhile (· != b) = s.take (s.idxOf b) ∧ s.dropWhile (· != b) = s.drop (s.idxOf b)
  | [], h => by cases h
  | c :: s, h => by
    rw [List.takeWhile_cons, List.dropWhile_cons, List.idxOf_cons]
    by_cases e : c = b
    · subst e
      simp
    · have e1 : (c == b) = false := by simpa using e
      have e2 : (c != b) = true := by simpa using e
      obtain ⟨h1, h2⟩ := idx_in b s (by rcases List.mem_cons.1 h with q | q; exact absurd q.symm e; exact q)
      rw [if_pos e2, if_pos e2, h1, h2, e1]
      exact ⟨rfl, rfl⟩
set_option maxRecDepth 100000 in
theorem idx_out0 (b : UInt8) : ∀ s : List UInt8, b ∉ s → s.takeWhile (· != b) = s ∧ s.dropWhile (· != b) = []
  | [], _ => ⟨rfl, rfl⟩
  | c :: s, h => by
    have hc : (c != b) = true := by
      have : c ≠ b := fun e => h (e ▸ List.mem_cons_self)
      simpa using this
    obtain ⟨g1, g2⟩ := idx_out0 b s fun q => h (List.mem_cons_of_mem _ q)
    rw [List.takeWhile_cons, List.dropWhile_cons, if_pos hc, if_pos hc, g1, g2]
    exact ⟨rfl, rfl⟩
theorem idx_out (b : UInt8) (s : List UInt8) (h : b ∉ s) : s.takeWhile (· != b) = s ∧ behindB b s = [] :=
  ⟨(idx_out0 b s h).1, by rw [behindB, (idx_out0 b s h).2]; rfl⟩
theorem behind_len (b : UInt8) (s : List UInt8) : (behindB b s).length ≤ s.length := by
  unfold behindB
  rw [List.length_drop]
  have := (List.dropWhile_sublist (· != b) (l := s)).length_le
  omega
theorem trim_len (s : List UInt8) : (trimE s).length ≤ s.length := by
  unfold trimE
  split
  · rw [List.length_dropLast]; omega
  · omega
theorem cutR_len (s : List UInt8) : (cutR s).length ≤ s.length := by
  unfold cutR
  split
  · exact Nat.zero_le _
  · rw [List.length_take]; omega
theorem cutR_front (s : List UInt8) : cutR s ++ s.drop (cutR s).length = s := by
  unfold cutR
  split
  · rfl
  · rename_i h
    rw [List.length_take, Nat.min_eq_left (by omega), List.take_append_drop]
theorem pair_len (x : List UInt8) : (pairR x).1.length + (pairR x).2.length ≤ x.length := by
  have h1 := behind_len 32 x
  have h2 := trim_len (behindB 32 x)
  show ((trimE (behindB 32 x)).takeWhile (· != 61)).length + (behindB 61 (trimE (behindB 32 x))).length ≤ _
  generalize trimE (behindB 32 x) = t at *
  by_cases h : (61 : UInt8) ∈ t
  · obtain ⟨e1, e2⟩ := idx_in 61 _ h
    rw [behindB, e1, e2, List.length_drop, List.length_drop, List.length_take]
    omega
  · obtain ⟨e1, e2⟩ := idx_out 61 _ h
    rw [e1, e2]
    show _ + 0 ≤ _
    omega
set_option maxRecDepth 100000 in
theorem pair_rec (p : PairL) (hk : keyK p.1) : pairR (recL p) = p := by
  have h0 := (first_blank p []).2
  rw [List.append_nil, List.append_nil] at h0
  have h1 : behindB 32 (recL p) = p.1 ++ 61 :: (p.2 ++ [10]) := by
    rw [behindB, h0]
    rfl
  have h2 : trimE (p.1 ++ 61 :: (p.2 ++ [10])) = p.1 ++ 61 :: p.2 := by
    have e : p.1 ++ 61 :: (p.2 ++ [10]) = (p.1 ++ 61 :: p.2) ++ [10] := by simp
    rw [e, trimE, if_pos List.getLast?_concat, List.dropLast_concat]
  obtain ⟨h3, h4⟩ := upto_cons 61 p.1 p.2 hk.2
  rw [pairR, h1, h2, behindB, h3, h4]
  rfl
theorem cut_rec (p : PairL) (r : List UInt8) (h : p.1.length + p.2.length ≤ 999990) : cutR (recL p ++ r) = recL p := by
  have hl := len_rec p r h
  unfold cutR
  rw [hl]
  have e : (recL p).length = recN p := recL_length p h
  rw [if_neg (by rw [List.length_append, e]; show ¬ (0 ≠ 0 ∨ recN p + r.length < recN p); omega)]
  show (recL p ++ r).take (recN p) = _
  rw [← e, List.take_left]
theorem is_rec (p : PairL) (r : List UInt8) (hk : keyK p.1) (h : p.1.length + p.2.length ≤ 999990) : isR (cutR (recL p ++ r)) := by
  rw [cut_rec p r h]
  unfold isR
  rw [pair_rec p hk]
  exact ⟨hk, rfl⟩
theorem not_nil : ¬ isR [] := by
  intro h
  exact recL_ne _ h.2
theorem flat_stuckR : ∀ (L l : List PairL) (R : List UInt8), keysK L → keysK l → shortP L → shortP l → flatP L ++ R = flatP l → ∃ l', l = L ++ l' ∧ R = flatP l'
  | [], l, R, _, _, _, _, h => ⟨l, rfl, h⟩
  | p :: L, [], R, _, _, _, _, h => by
    have h1 : recL p ++ (flatP L ++ R) = [] := by rw [← List.append_assoc]; exact h
    exact absurd (List.append_eq_nil_iff.1 h1).1 (recL_ne p)
  | p :: L, q :: l, R, hL, hl, sL, sl, h => by
    have h1 := read_rec p (flatP L ++ R) (hL p List.mem_cons_self) (sL p List.mem_cons_self)
    have h2 := read_rec q (flatP l) (hl q List.mem_cons_self) (sl q List.mem_cons_self)
    rw [show recL p ++ (flatP L ++ R) = recL q ++ flatP l from by rw [← List.append_assoc]; exact h, h2] at h1
    have e1 : q = p := congrArg Prod.fst h1
    have e2 : flatP l = flatP L ++ R := congrArg Prod.snd h1
    obtain ⟨l', h3, h4⟩ := flat_stuckR L l R (fun x hx => hL x (List.mem_cons_of_mem _ hx)) (fun x hx => hl x (List.mem_cons_of_mem _ hx)) (fun x hx => sL x (List.mem_cons_of_mem _ hx)) (fun x hx => sl x (List.mem_cons_of_mem _ hx)) e2.symm
    exact ⟨l', by rw [e1, h3]; rfl, h4⟩
/-- Where the code finds no record and something is left, the text has no pairs. -/
theorem no_pairs (L : List PairL) (R t : List UInt8) (hL : keysK L) (ht : t.length ≤ 262144) (h : flatP L ++ R = t) (hn : ¬ isR (cutR R)) (hR : R ≠ []) : ∀ l, keysK l → flatP l ≠ t := by
  intro l hl e
  have h1 : (flatP L).length ≤ 999990 := by
    have := congrArg List.length h
    rw [List.length_append] at this
    omega
  have hs := short_of_flat l (by rw [e]; omega)
  obtain ⟨l', h3, h4⟩ := flat_stuckR L l R hL hl (short_of_flat L h1) hs (by rw [h, e])
  cases l' with
  | nil => exact hR h4
  | cons q l' =>
    have hq : q ∈ l := by rw [h3]; exact List.mem_append_right _ List.mem_cons_self
    refine hn ?_
    rw [h4]
    exact is_rec q (flatP l') (hl q hq) (hs q hq)
/-- One more record read. -/
theorem one_more (L : List PairL) (R t : List UInt8) (hL : keysK L) (h : flatP L ++ R = t) (hi : isR (cutR R)) : keysK (L ++ [pairR (cutR R)]) ∧ flatP (L ++ [pairR (cutR R)]) ++ R.drop (cutR R).length = t ∧ 0 < (cutR R).length := by
  refine ⟨keysK_append hL fun p hp => ?_, ?_, ?_⟩
  · rw [List.mem_singleton.1 hp]
    exact hi.1
  · rw [flatP_append, show flatP [pairR (cutR R)] = recL (pairR (cutR R)) from List.append_nil _, hi.2, List.append_assoc, cutR_front]
    exact h
  · refine List.length_pos_iff.2 fun e => ?_
    rw [e] at hi
    exact not_nil hi
/-- The digits of a size, reckoned from below. -/
theorem decL_mono (a b : Nat) (h : a ≤ b) (hb : b < 1000000) : (decL a).length ≤ (decL b).length := by
  rw [decL_size a (by omega), decL_size b hb]
  repeat' split
  all_goals omega
set_option maxRecDepth 100000 in
theorem dig_step (r d : Nat) (hr : r ≤ 999990) (hd : d ≤ digN r) (hi : d ≤ (decL (r + d)).length) : (decL (r + d)).length ≤ digN r ∧ ((decL (r + d)).length ≤ d → d = digN r) ∧ (d < (decL (r + d)).length → (decL (r + d)).length ≤ (decL (r + (decL (r + d)).length)).length) := by
  have h6 : digN r ≤ 6 ∧ digN r + r < 1000000 := by
    unfold digN
    repeat' split
    all_goals omega
  have h1 : (decL (r + d)).length ≤ digN r := by
    have := decL_mono (r + d) (digN r + r) (by omega) (by omega)
    rw [digN_right r (by omega)] at this
    exact this
  refine ⟨h1, fun h => ?_, fun h => decL_mono _ _ (by omega) (by omega)⟩
  rcases Nat.lt_or_ge d (digN r) with h3 | h3
  · have := digN_least r d (by omega) h3
    rw [Nat.add_comm] at this
    omega
  · omega
end Go.Proofs.YtdjmfkodjjjhfaaGreatDoor
/- What pax asks of strings: Cut at a blank and at =, Contains of =, TrimSuffix of a line end. Conditions: texts of at most 2^47 bytes where it cuts. -/
namespace Go.Proofs.YtdjmfkodjjjhfaaGreatDoor
open Go.RowKit

set_option maxRecDepth 100000 in
theorem byte_idx (l : List UInt8) (b : UInt8) : Lib.indexByte l b = if b ∈ l then ((l.idxOf b : Nat) : Int) else -1 := by
  induction l with
  | nil => simp [Lib.indexByte]
  | cons x l ih =>
    unfold Lib.indexByte
    rw [List.idxOf_cons]
    by_cases e : x = b
    · subst e
      simp
    · have e1 : (x == b) = false := by simpa using e
      have e2 : ¬ b = x := fun h => e h.symm
      rw [e1, ih]
      simp only [Bool.false_eq_true, if_false, cond_false, List.mem_cons, e2, false_or]
      by_cases hm : b ∈ l
      · rw [if_pos hm, if_pos hm]
        have : (((l.idxOf b : Nat) : Int) == -1) = false := by
          rw [beq_eq_false_iff_ne]
          omega
        rw [this]
        simp
      · rw [if_neg hm, if_neg hm]
        simp
theorem strF_of (s : ByteArray) : strF s.data.toList = s := by
  apply ByteArray.ext
  apply Array.toList_inj.1
  rfl
theorem extF_front (s : ByteArray) (i : Nat) : s.extract 0 i = strF (s.data.toList.take i) := by
  apply ByteArray.ext
  apply Array.toList_inj.1
  rw [fext_list, List.drop_zero]
  rfl
theorem extF_back (s : ByteArray) (i : Nat) : s.extract i s.size = strF (s.data.toList.drop i) := by
  apply ByteArray.ext
  apply Array.toList_inj.1
  rw [fext_list, List.take_of_length_le (show s.data.toList.length ≤ s.size from Nat.le_refl _)]
  rfl

set_option maxRecDepth 100000 in
theorem ixBl_any (w : World) (s : ByteArray) : Calls Tryz.prog 147 #[.string s, .int .u8 32] w fun e w' => e = .returned (.int .i64 (if (32 : UInt8) ∈ s.data.toList then ((s.data.toList.idxOf 32 : Nat) : Int) else -1)) ∧ w' = w := by
  have hrun := Lib.run_indexByteString (P := Tryz.prog) s 32 w
  rw [show ((32 : Int).toNat.toUInt8) = (32 : UInt8) from rfl, byte_idx] at hrun
  have HR := Lib.hid hrun
  clear hrun
  generalize (if (32 : UInt8) ∈ s.data.toList then ((s.data.toList.idxOf 32 : Nat) : Int) else -1) = y at *
  go_enter Tryz.func147, Tryz.ntmps147
  go_wp2_with fail
  rw [run_callFunc_extern Tryz.func163 (by kernel_rfl) (by kernel_rfl) (by kernel_rfl) (e := Extern.BytealgIndexByte.indexByte) (by kernel_rfl), HR.out]
  simp only [Result.andThen]
  rw [Oper.upon_value]
  go_wp2_with fail
  go_ret
  exact ⟨rfl, rfl⟩

set_option maxHeartbeats 1600000 in
set_option maxRecDepth 100000 in
theorem inBl_any (w : World) (s : ByteArray) : Calls Tryz.prog 145 #[.string s, .string ⟨#[32]⟩] w fun e w' => e = .returned (.int .i64 (if (32 : UInt8) ∈ s.data.toList then ((s.data.toList.idxOf 32 : Nat) : Int) else -1)) ∧ w' = w := by
  have HI := Lib.hid (ixBl_any w s)
  by_cases e : s = ⟨#[32]⟩
  · subst e
    have d0 : (((⟨#[32]⟩ : ByteArray).toList) == ((⟨#[32]⟩ : ByteArray).toList)) = true := beq_self_eq_true _
    have d1 : ([32] == ((⟨#[32]⟩ : ByteArray).toList)) = true := by rw [ByteArray.toList_eq]; rfl
    rw [show (if (32 : UInt8) ∈ (⟨#[32]⟩ : ByteArray).data.toList then (((⟨#[32]⟩ : ByteArray).data.toList.idxOf 32 : Nat) : Int) else -1) = 0 from by decide]
    go_enter Tryz.func145, Tryz.ntmps145
    go_wp2_with fail
    go_ret
    exact ⟨rfl, rfl⟩
  have d1 : ([32] == s.toList) = false := by
    rw [ByteArray.toList_eq]
    refine beq_false_of_ne fun h => e ?_
    apply ByteArray.ext
    apply Array.toList_inj.1
    exact h.symm
  clear e
  generalize (if (32 : UInt8) ∈ s.data.toList then ((s.data.toList.idxOf 32 : Nat) : Int) else -1) = y at *
  go_enter Tryz.func145, Tryz.ntmps145
  go_wp2_with fail
  refine HI.out.mono ?_
  rintro e w ⟨rfl, rfl⟩
  go_wp2_with fail
  go_ret
  exact ⟨rfl, rfl⟩

set_option maxHeartbeats 1600000 in
set_option maxRecDepth 100000 in
theorem lcBl_any (w : World) (s : ByteArray) (hs : s.size ≤ 140737488355328) : Calls Tryz.prog 117 #[.string s, .string ⟨#[32]⟩] w fun e w' => (∃ b, e = .returned (.tuple #[.string (strF (s.data.toList.takeWhile (· != 32))), .string (strF (behindB 32 s.data.toList)), .bool b])) ∧ ∃ d, w' = w.drewN d := by
  have HI := Lib.hid (inBl_any w s)
  by_cases h : (32 : UInt8) ∈ s.data.toList
  · have hlt := List.idxOf_lt_length_of_mem h
    obtain ⟨e1, e2⟩ := idx_in 32 _ h
    rw [if_pos h] at HI
    rw [behindB, e1, e2, List.drop_drop, ← extF_front, ← extF_back]
    obtain ⟨i, hi⟩ : ∃ i, i = s.data.toList.idxOf 32 := ⟨_, rfl⟩
    rw [← hi] at HI hlt ⊢
    have hlt2 : i < s.size := hlt
    have c1 : (0 : Int) ≤ (i : Int) := by omega
    have c2 : (i : Int) ≤ (s.size : Int) := by omega
    have c3 : (0 : Int) ≤ (i : Int) + 1 := by omega
    have c4 : (i : Int) + 1 ≤ (s.size : Int) := by omega
    clear hi hlt h e1 e2
    go_enter Tryz.func117, Tryz.ntmps117
    go_wp2_with fail
    refine HI.out.mono ?_
    rintro e w ⟨rfl, rfl⟩
    go_wp2_with fail
    go_region
    go_wp2_with fail
    go_ret3
    exact ⟨⟨_, rfl⟩, 1, rfl⟩
  · obtain ⟨e1, e2⟩ := idx_out 32 _ h
    rw [if_neg h] at HI
    rw [e1, e2, strF_of]
    clear h e1 e2
    go_enter Tryz.func117, Tryz.ntmps117
    go_wp2_with fail
    refine HI.out.mono ?_
    rintro e w ⟨rfl, rfl⟩
    go_wp2_with fail
    go_ret3
    exact ⟨⟨_, rfl⟩, 0, rfl⟩

set_option maxRecDepth 100000 in
theorem cutBl_any (w : World) (s : ByteArray) (hs : s.size ≤ 140737488355328) : Calls Tryz.prog 83 #[.string s, .string ⟨#[32]⟩] w fun e w' => (∃ b, e = .returned (.tuple #[.string (strF (s.data.toList.takeWhile (· != 32))), .string (strF (behindB 32 s.data.toList)), .bool b])) ∧ ∃ d, w' = w.drewN d := by
  have HI := Lib.hid (lcBl_any w s hs)
  go_enter Tryz.func83, Tryz.ntmps83
  go_wp2_with fail
  refine HI.out.mono ?_
  rintro e w' ⟨⟨b, rfl⟩, hd⟩
  have HD := Lib.hid hd
  clear hd
  go_wp2_with fail
  go_ret3
  exact ⟨⟨_, rfl⟩, HD.out⟩

set_option maxRecDepth 100000 in
theorem ixEq_any (w : World) (s : ByteArray) : Calls Tryz.prog 147 #[.string s, .int .u8 61] w fun e w' => e = .returned (.int .i64 (if (61 : UInt8) ∈ s.data.toList then ((s.data.toList.idxOf 61 : Nat) : Int) else -1)) ∧ w' = w := by
  have hrun := Lib.run_indexByteString (P := Tryz.prog) s 61 w
  rw [show ((61 : Int).toNat.toUInt8) = (61 : UInt8) from rfl, byte_idx] at hrun
  have HR := Lib.hid hrun
  clear hrun
  generalize (if (61 : UInt8) ∈ s.data.toList then ((s.data.toList.idxOf 61 : Nat) : Int) else -1) = y at *
  go_enter Tryz.func147, Tryz.ntmps147
  go_wp2_with fail
  rw [run_callFunc_extern Tryz.func163 (by kernel_rfl) (by kernel_rfl) (by kernel_rfl) (e := Extern.BytealgIndexByte.indexByte) (by kernel_rfl), HR.out]
  simp only [Result.andThen]
  rw [Oper.upon_value]
  go_wp2_with fail
  go_ret
  exact ⟨rfl, rfl⟩

set_option maxHeartbeats 1600000 in
set_option maxRecDepth 100000 in
theorem inEq_any (w : World) (s : ByteArray) : Calls Tryz.prog 145 #[.string s, .string ⟨#[61]⟩] w fun e w' => e = .returned (.int .i64 (if (61 : UInt8) ∈ s.data.toList then ((s.data.toList.idxOf 61 : Nat) : Int) else -1)) ∧ w' = w := by
  have HI := Lib.hid (ixEq_any w s)
  by_cases e : s = ⟨#[61]⟩
  · subst e
    have d0 : (((⟨#[61]⟩ : ByteArray).toList) == ((⟨#[61]⟩ : ByteArray).toList)) = true := beq_self_eq_true _
    have d1 : ([61] == ((⟨#[61]⟩ : ByteArray).toList)) = true := by rw [ByteArray.toList_eq]; rfl
    rw [show (if (61 : UInt8) ∈ (⟨#[61]⟩ : ByteArray).data.toList then (((⟨#[61]⟩ : ByteArray).data.toList.idxOf 61 : Nat) : Int) else -1) = 0 from by decide]
    go_enter Tryz.func145, Tryz.ntmps145
    go_wp2_with fail
    go_ret
    exact ⟨rfl, rfl⟩
  have d1 : ([61] == s.toList) = false := by
    rw [ByteArray.toList_eq]
    refine beq_false_of_ne fun h => e ?_
    apply ByteArray.ext
    apply Array.toList_inj.1
    exact h.symm
  clear e
  generalize (if (61 : UInt8) ∈ s.data.toList then ((s.data.toList.idxOf 61 : Nat) : Int) else -1) = y at *
  go_enter Tryz.func145, Tryz.ntmps145
  go_wp2_with fail
  refine HI.out.mono ?_
  rintro e w ⟨rfl, rfl⟩
  go_wp2_with fail
  go_ret
  exact ⟨rfl, rfl⟩

set_option maxHeartbeats 1600000 in
set_option maxRecDepth 100000 in
theorem lcEq_any (w : World) (s : ByteArray) (hs : s.size ≤ 140737488355328) : Calls Tryz.prog 117 #[.string s, .string ⟨#[61]⟩] w fun e w' => (∃ b, e = .returned (.tuple #[.string (strF (s.data.toList.takeWhile (· != 61))), .string (strF (behindB 61 s.data.toList)), .bool b])) ∧ ∃ d, w' = w.drewN d := by
  have HI := Lib.hid (inEq_any w s)
  by_cases h : (61 : UInt8) ∈ s.data.toList
  · have hlt := List.idxOf_lt_length_of_mem h
    obtain ⟨e1, e2⟩ := idx_in 61 _ h
    rw [if_pos h] at HI
    rw [behindB, e1, e2, List.drop_drop, ← extF_front, ← extF_back]
    obtain ⟨i, hi⟩ : ∃ i, i = s.data.toList.idxOf 61 := ⟨_, rfl⟩
    rw [← hi] at HI hlt ⊢
    have hlt2 : i < s.size := hlt
    have c1 : (0 : Int) ≤ (i : Int) := by omega
    have c2 : (i : Int) ≤ (s.size : Int) := by omega
    have c3 : (0 : Int) ≤ (i : Int) + 1 := by omega
    have c4 : (i : Int) + 1 ≤ (s.size : Int) := by omega
    clear hi hlt h e1 e2
    go_enter Tryz.func117, Tryz.ntmps117
    go_wp2_with fail
    refine HI.out.mono ?_
    rintro e w ⟨rfl, rfl⟩
    go_wp2_with fail
    go_region
    go_wp2_with fail
    go_ret3
    exact ⟨⟨_, rfl⟩, 1, rfl⟩
  · obtain ⟨e1, e2⟩ := idx_out 61 _ h
    rw [if_neg h] at HI
    rw [e1, e2, strF_of]
    clear h e1 e2
    go_enter Tryz.func117, Tryz.ntmps117
    go_wp2_with fail
    refine HI.out.mono ?_
    rintro e w ⟨rfl, rfl⟩
    go_wp2_with fail
    go_ret3
    exact ⟨⟨_, rfl⟩, 0, rfl⟩

set_option maxRecDepth 100000 in
theorem cutEq_any (w : World) (s : ByteArray) (hs : s.size ≤ 140737488355328) : Calls Tryz.prog 83 #[.string s, .string ⟨#[61]⟩] w fun e w' => (∃ b, e = .returned (.tuple #[.string (strF (s.data.toList.takeWhile (· != 61))), .string (strF (behindB 61 s.data.toList)), .bool b])) ∧ ∃ d, w' = w.drewN d := by
  have HI := Lib.hid (lcEq_any w s hs)
  go_enter Tryz.func83, Tryz.ntmps83
  go_wp2_with fail
  refine HI.out.mono ?_
  rintro e w' ⟨⟨b, rfl⟩, hd⟩
  have HD := Lib.hid hd
  clear hd
  go_wp2_with fail
  go_ret3
  exact ⟨⟨_, rfl⟩, HD.out⟩

set_option maxRecDepth 100000 in
theorem sindex_any (w : World) (s : ByteArray) : Calls Tryz.prog 123 #[.string s, .string ⟨#[61]⟩] w fun e w' => e = .returned (.int .i64 (if (61 : UInt8) ∈ s.data.toList then ((s.data.toList.idxOf 61 : Nat) : Int) else -1)) ∧ w' = w := by
  have HI := Lib.hid (inEq_any w s)
  generalize (if (61 : UInt8) ∈ s.data.toList then ((s.data.toList.idxOf 61 : Nat) : Int) else -1) = y at *
  go_enter Tryz.func123, Tryz.ntmps123
  go_wp2_with fail
  refine HI.out.mono ?_
  rintro e w ⟨rfl, rfl⟩
  go_wp2_with fail
  go_ret
  exact ⟨rfl, rfl⟩

set_option maxRecDepth 100000 in
theorem contains_any (w : World) (s : ByteArray) : Calls Tryz.prog 92 #[.string s, .string ⟨#[61]⟩] w fun e w' => e = .returned (.bool (decide ((61 : UInt8) ∈ s.data.toList))) ∧ w' = w := by
  have HI := Lib.hid (sindex_any w s)
  by_cases h : (61 : UInt8) ∈ s.data.toList
  · rw [decide_eq_true h]
    rw [if_pos h] at HI
    have d0 : decide ((0 : Int) ≤ ((s.data.toList.idxOf 61 : Nat) : Int)) = true := decide_eq_true (by omega)
    generalize s.data.toList.idxOf 61 = i at *
    clear h
    go_enter Tryz.func92, Tryz.ntmps92
    go_wp2_with fail
    refine HI.out.mono ?_
    rintro e w ⟨rfl, rfl⟩
    go_wp2_with fail
    go_ret
    exact ⟨rfl, rfl⟩
  · rw [decide_eq_false h]
    rw [if_neg h] at HI
    clear h
    go_enter Tryz.func92, Tryz.ntmps92
    go_wp2_with fail
    refine HI.out.mono ?_
    rintro e w ⟨rfl, rfl⟩
    go_wp2_with fail
    go_ret
    exact ⟨rfl, rfl⟩
set_option maxRecDepth 100000 in
theorem last_ext (s : ByteArray) (h : 0 < s.size) : ((s.extract (s.size - 1) s.size).toList == [10]) = decide (s.data.toList.getLast? = some 10) := by
  have hl : s.data.toList.length = s.size := rfl
  have hne : s.data.toList ≠ [] := fun e => by rw [e] at hl; simp at hl; omega
  rw [ByteArray.toList_eq, fext_list, List.take_of_length_le (show s.data.toList.length ≤ s.size from Nat.le_refl _), ← hl]
  generalize s.data.toList = l at *
  obtain ⟨d, x, rfl⟩ : ∃ d x, l = d ++ [x] := ⟨l.dropLast, l.getLast hne, (List.dropLast_concat_getLast hne).symm⟩
  rw [List.getLast?_concat, List.drop_left' (by rw [List.length_append]; rfl)]
  by_cases e : x = 10
  · subst e
    rfl
  · rw [decide_eq_false (by simpa using e)]
    exact beq_false_of_ne (by simpa using e)

set_option maxRecDepth 100000 in
theorem suffix_any (w : World) (s : ByteArray) (hs : s.size ≤ 140737488355328) : Calls Tryz.prog 164 #[.string s, .string ⟨#[10]⟩] w fun e w' => e = .returned (.bool (decide (s.data.toList.getLast? = some 10))) ∧ ∃ d, w' = w.drewN d := by
  by_cases h : 0 < s.size
  · have d0 : decide ((1 : Int) ≤ (s.size : Int)) = true := decide_eq_true (by omega)
    obtain ⟨i, hi⟩ : ∃ i : Nat, i = s.size - 1 := ⟨_, rfl⟩
    have d1 := last_ext s h
    rw [← hi] at d1
    have d2 : (s.size : Int) - 1 = (i : Int) := by omega
    have c1 : (i : Int) ≤ (s.size : Int) := by omega
    generalize decide (s.data.toList.getLast? = some 10) = b at *
    clear hi
    go_enter Tryz.func164, Tryz.ntmps164
    go_wp2_with fail
    go_ret
    exact ⟨rfl, 0, rfl⟩
  · have d0 : decide ((1 : Int) ≤ (s.size : Int)) = false := decide_eq_false (by omega)
    have e1 : s.data.toList = [] := List.eq_nil_of_length_eq_zero (by show s.size = 0; omega)
    rw [e1]
    show Calls _ _ _ _ fun e w' => e = .returned (.bool false) ∧ _
    clear e1
    go_enter Tryz.func164, Tryz.ntmps164
    go_wp2_with fail
    go_ret
    exact ⟨rfl, 0, rfl⟩
set_option maxRecDepth 100000 in
theorem ltrim_any (w : World) (s : ByteArray) (hs : s.size ≤ 140737488355328) : Calls Tryz.prog 150 #[.string s, .string ⟨#[10]⟩] w fun e w' => e = .returned (.string (strF (trimE s.data.toList))) ∧ ∃ d, w' = w.drewN d := by
  have HI := Lib.hid (suffix_any w s hs)
  unfold trimE
  by_cases h : s.data.toList.getLast? = some 10
  · rw [if_pos h]
    rw [decide_eq_true h] at HI
    have hz : 0 < s.size := by
      rcases Nat.eq_zero_or_pos s.size with h0 | h0
      · have e1 : s.data.toList = [] := List.eq_nil_of_length_eq_zero h0
        rw [e1] at h
        cases h
      · exact h0
    have e2 : strF s.data.toList.dropLast = s.extract 0 (s.size - 1) := by
      rw [extF_front, List.dropLast_eq_take]
      rfl
    rw [e2]
    obtain ⟨i, hi⟩ : ∃ i : Nat, i = s.size - 1 := ⟨_, rfl⟩
    rw [← hi]
    have d2 : (s.size : Int) - 1 = (i : Int) := by omega
    have c1 : (i : Int) ≤ (s.size : Int) := by omega
    clear hi e2 h
    go_enter Tryz.func150, Tryz.ntmps150
    go_wp2_with fail
    refine HI.out.mono ?_
    rintro e w' ⟨rfl, hd⟩
    have HD := Lib.hid hd
    clear hd
    go_wp2_with fail
    go_ret
    exact ⟨rfl, HD.out⟩
  · rw [if_neg h, strF_of]
    rw [decide_eq_false h] at HI
    clear h
    go_enter Tryz.func150, Tryz.ntmps150
    go_wp2_with fail
    refine HI.out.mono ?_
    rintro e w' ⟨rfl, hd⟩
    have HD := Lib.hid hd
    clear hd
    go_wp2_with fail
    go_ret
    exact ⟨rfl, HD.out⟩
set_option maxRecDepth 100000 in
theorem trim_any (w : World) (s : ByteArray) (hs : s.size ≤ 140737488355328) : Calls Tryz.prog 130 #[.string s, .string ⟨#[10]⟩] w fun e w' => e = .returned (.string (strF (trimE s.data.toList))) ∧ ∃ d, w' = w.drewN d := by
  have HI := Lib.hid (ltrim_any w s hs)
  go_enter Tryz.func130, Tryz.ntmps130
  go_wp2_with fail
  refine HI.out.mono ?_
  rintro e w' ⟨rfl, hd⟩
  have HD := Lib.hid hd
  clear hd
  go_wp2_with fail
  go_ret
  exact ⟨rfl, HD.out⟩
end Go.Proofs.YtdjmfkodjjjhfaaGreatDoor
