/- Pax: plain: records, what is written of pairs, and that it is read in one way. Written ahead of stage 17. -/
import Derived.Test.YtdjmfkodjjjhfaaGreatDoorSa
import Derived.Laws.StructEq
namespace Go.Proofs.YtdjmfkodjjjhfaaGreatDoor
open Go.RowKit

abbrev PairL := List UInt8 × List UInt8
/-- A record behind its length. -/
def prestL (p : PairL) : List UInt8 := 32 :: (p.1 ++ 61 :: (p.2 ++ [10]))
/-- With how many digits a record of so many further bytes tells its length. -/
def digN (r : Nat) : Nat := if r ≤ 8 then 1 else if r ≤ 97 then 2 else if r ≤ 996 then 3 else if r ≤ 9995 then 4 else if r ≤ 99994 then 5 else 6
def recN (p : PairL) : Nat := digN (prestL p).length + (prestL p).length
def recL (p : PairL) : List UInt8 := decL (recN p) ++ prestL p
/-- May a key be? -/
def keyK (k : List UInt8) : Prop := k ≠ [] ∧ (61 : UInt8) ∉ k
instance (k : List UInt8) : Decidable (keyK k) := by unfold keyK; exact inferInstance
def flatP : List PairL → List UInt8
  | [] => []
  | p :: l => recL p ++ flatP l
def keysK (l : List PairL) : Prop := ∀ p, p ∈ l → keyK p.1
instance (l : List PairL) : Decidable (keysK l) := by unfold keysK; exact inferInstance
set_option maxRecDepth 100000 in
theorem prestL_length (p : PairL) : (prestL p).length = p.1.length + p.2.length + 3 := by
  simp only [prestL, List.length_cons, List.length_append, List.length_nil]
  omega
theorem decL_len1 (n : Nat) (h : n < 10) : (decL n).length = 1 := by rw [decL, if_pos h]; rfl
theorem decL_len (n : Nat) (h : 10 ≤ n) : (decL n).length = (decL (n / 10)).length + 1 := by
  rw [decL, if_neg (by omega), List.length_append]
  rfl
theorem decL_size (n : Nat) (h : n < 1000000) : (decL n).length = if n < 10 then 1 else if n < 100 then 2 else if n < 1000 then 3 else if n < 10000 then 4 else if n < 100000 then 5 else 6 := by
  by_cases h1 : n < 10
  · rw [if_pos h1, decL_len1 n h1]
  rw [if_neg h1, decL_len n (by omega)]
  by_cases h2 : n < 100
  · rw [if_pos h2, decL_len1 _ (by omega)]
  rw [if_neg h2, decL_len _ (by omega)]
  by_cases h3 : n < 1000
  · rw [if_pos h3, decL_len1 _ (by omega)]
  rw [if_neg h3, decL_len _ (by omega)]
  by_cases h4 : n < 10000
  · rw [if_pos h4, decL_len1 _ (by omega)]
  rw [if_neg h4, decL_len _ (by omega)]
  by_cases h5 : n < 100000
  · rw [if_pos h5, decL_len1 _ (by omega)]
  rw [if_neg h5, decL_len _ (by omega), decL_len1 _ (by omega)]
/-- The length is told with as many digits as were reckoned with. -/
theorem digN_right (r : Nat) (h : r ≤ 999993) : (decL (digN r + r)).length = digN r := by
  unfold digN
  repeat' split
  all_goals
    rw [decL_size _ (by omega)]
    repeat' split
    all_goals omega
/-- .. and with no fewer. -/
theorem digN_least (r d : Nat) (h : r ≤ 999993) (hd : d < digN r) : (decL (d + r)).length ≠ d := by
  have hdN : digN r ≤ 6 := by
    unfold digN
    repeat' split
    all_goals omega
  rw [decL_size _ (by omega)]
  unfold digN at hd
  repeat' split at hd
  all_goals
    repeat' split
    all_goals omega
theorem recL_length (p : PairL) (h : p.1.length + p.2.length ≤ 999990) : (recL p).length = recN p := by
  rw [recL, List.length_append]
  show _ = digN (prestL p).length + (prestL p).length
  rw [show recN p = digN (prestL p).length + (prestL p).length from rfl, digN_right _ (by rw [prestL_length]; omega)]
set_option maxRecDepth 100000 in
theorem decL_digits (n : Nat) : ∀ c, c ∈ decL n → 48 ≤ c.toNat ∧ c.toNat ≤ 57 := by
  induction n using decL.induct with
  | case1 n h =>
    intro c hc
    rw [decL, if_pos h] at hc
    rw [List.mem_singleton.1 hc, dig8_toNat n h]
    omega
  | case2 n h ih =>
    intro c hc
    rw [decL, if_neg h] at hc
    rcases List.mem_append.1 hc with hc | hc
    · exact ih c hc
    · rw [List.mem_singleton.1 hc, dig8_toNat _ (by omega)]
      omega
set_option maxRecDepth 100000 in
/-- Up to a byte that is not among the first ones. -/
theorem upto_cons (b : UInt8) : ∀ (x r : List UInt8), b ∉ x → (x ++ b :: r).takeWhile (· != b) = x ∧ (x ++ b :: r).dropWhile (· != b) = b :: r
  | [], r, _ => by simp
  | c :: x, r, h => by
    have hc : c ≠ b := fun e => h (by rw [e]; exact List.mem_cons_self)
    have hx : b ∉ x := fun e => h (List.mem_cons_of_mem _ e)
    obtain ⟨h1, h2⟩ := upto_cons b x r hx
    have hcb : (c != b) = true := by simpa using hc
    rw [List.cons_append, List.takeWhile_cons, List.dropWhile_cons, if_pos hcb, if_pos hcb, h1, h2]
    exact ⟨rfl, rfl⟩
theorem no_blank (n : Nat) : (32 : UInt8) ∉ decL n := fun h => by
  have := decL_digits n _ h
  have : (32 : UInt8).toNat = 32 := rfl
  omega
theorem no_eq (n : Nat) : (61 : UInt8) ∉ decL n := fun h => by
  have := decL_digits n _ h
  have : (61 : UInt8).toNat = 61 := rfl
  omega
/-- What a text of records tells first. -/
def lenR (s : List UInt8) : Nat := (decimalA (s.takeWhile (· != 32))).1
def readR (s : List UInt8) : PairL × List UInt8 :=
  (((((s.take (lenR s)).dropWhile (· != 32)).drop 1).takeWhile (· != 61), (((((s.take (lenR s)).dropWhile (· != 32)).drop 1).dropWhile (· != 61)).drop 1).dropLast), s.drop (lenR s))
theorem first_blank (p : PairL) (r : List UInt8) : (recL p ++ r).takeWhile (· != 32) = decL (recN p) ∧ (recL p ++ r).dropWhile (· != 32) = prestL p ++ r := by
  have e : recL p ++ r = decL (recN p) ++ 32 :: ((p.1 ++ 61 :: (p.2 ++ [10])) ++ r) := by
    rw [recL, prestL, List.append_assoc]
    rfl
  rw [e]
  exact upto_cons 32 (decL (recN p)) ((p.1 ++ 61 :: (p.2 ++ [10])) ++ r) (no_blank _)
theorem len_rec (p : PairL) (r : List UInt8) (h : p.1.length + p.2.length ≤ 999990) : decimalA ((recL p ++ r).takeWhile (· != 32)) = (recN p, 0) := by
  rw [(first_blank p r).1]
  refine decimal_digits _ ?_
  have : digN (prestL p).length ≤ 6 := by
    unfold digN
    repeat' split
    all_goals omega
  show digN (prestL p).length + (prestL p).length ≤ _
  rw [prestL_length] at *
  omega
theorem read_rec (p : PairL) (r : List UInt8) (hk : keyK p.1) (h : p.1.length + p.2.length ≤ 999990) : readR (recL p ++ r) = (p, r) := by
  have hl : lenR (recL p ++ r) = (recL p).length := by rw [lenR, len_rec p r h, recL_length p h]
  have h0 := (first_blank p []).2
  rw [List.append_nil, List.append_nil] at h0
  obtain ⟨h1, h2⟩ := upto_cons 61 p.1 (p.2 ++ [10]) hk.2
  rw [readR, hl, List.take_left, List.drop_left, h0, prestL, List.drop_succ_cons, List.drop_zero, h1, h2, List.drop_succ_cons, List.drop_zero, List.dropLast_concat]
theorem recL_ne (p : PairL) : recL p ≠ [] := by
  rw [recL]
  intro h
  exact decL_ne _ (List.append_eq_nil_iff.1 h).1
/-- So many bytes of keys and values at most. -/
def shortP (l : List PairL) : Prop := ∀ p, p ∈ l → p.1.length + p.2.length ≤ 999990
theorem flat_inj : ∀ (l m : List PairL), keysK l → keysK m → shortP l → shortP m → flatP l = flatP m → l = m
  | [], [], _, _, _, _, _ => rfl
  | [], q :: m, _, _, _, _, h => by
    have := (List.append_eq_nil_iff.1 (show recL q ++ flatP m = [] from h.symm)).1
    exact absurd this (recL_ne q)
  | p :: l, [], _, _, _, _, h => by
    have := (List.append_eq_nil_iff.1 (show recL p ++ flatP l = [] from h)).1
    exact absurd this (recL_ne p)
  | p :: l, q :: m, hl, hm, sl, sm, h => by
    have h1 := read_rec p (flatP l) (hl p List.mem_cons_self) (sl p List.mem_cons_self)
    have h2 := read_rec q (flatP m) (hm q List.mem_cons_self) (sm q List.mem_cons_self)
    rw [show recL p ++ flatP l = recL q ++ flatP m from h, h2] at h1
    have e1 : q = p := congrArg Prod.fst h1
    have e2 : flatP m = flatP l := congrArg Prod.snd h1
    rw [e1, flat_inj l m (fun x hx => hl x (List.mem_cons_of_mem _ hx)) (fun x hx => hm x (List.mem_cons_of_mem _ hx)) (fun x hx => sl x (List.mem_cons_of_mem _ hx)) (fun x hx => sm x (List.mem_cons_of_mem _ hx)) e2.symm]
theorem flatP_append (l : List PairL) : ∀ m, flatP (l ++ m) = flatP l ++ flatP m := by
  induction l with
  | nil => intro m; rfl
  | cons p l ih => intro m; rw [List.cons_append, flatP, flatP, ih, List.append_assoc]
theorem keysK_append {l m : List PairL} (h : keysK l) (g : keysK m) : keysK (l ++ m) := fun p hp => (List.mem_append.1 hp).elim (h p) (g p)
theorem shortP_append {l m : List PairL} (h : shortP l) (g : shortP m) : shortP (l ++ m) := fun p hp => (List.mem_append.1 hp).elim (h p) (g p)
set_option maxRecDepth 100000 in
theorem part_le : ∀ (l : List PairL) (p : PairL), p ∈ l → (recL p).length ≤ (flatP l).length
  | q :: l, p, h => by
    rw [flatP, List.length_append]
    rcases List.mem_cons.1 h with h | h
    · rw [h]; omega
    · have := part_le l p h
      omega
/-- What is written in few bytes has short keys and values. -/
theorem short_of_flat (l : List PairL) (h : (flatP l).length ≤ 999990) : shortP l := fun p hp => by
  have := part_le l p hp
  rw [recL, List.length_append, prestL_length] at this
  omega
/-- The last value of a key. -/
def lastA {α : Type} [DecidableEq α] (k : α) : List (α × α) → Option α → Option α
  | [], v => v
  | p :: l, v => lastA k l (if p.1 = k then some p.2 else v)
theorem lastA_append {α : Type} [DecidableEq α] (k : α) : ∀ (l m : List (α × α)) (v : Option α), lastA k (l ++ m) v = lastA k m (lastA k l v)
  | [], _, _ => rfl
  | p :: l, m, v => by rw [List.cons_append, lastA, lastA, lastA_append k l m]
theorem lastA_some {α : Type} [DecidableEq α] (k : α) : ∀ (l : List (α × α)) (v : Option α), lastA k l v = (lastA k l none).or v
  | [], v => by rw [lastA, lastA, Option.none_or]
  | p :: l, v => by
    rw [lastA, lastA, lastA_some k l (if p.1 = k then some p.2 else v), lastA_some k l (if p.1 = k then some p.2 else none)]
    split
    · rw [Option.or_assoc, Option.some_or]
    · rw [Option.or_none]
/-- Few pairs, short ones: what the law looks at. -/
def lightS : List PairL → Nat → Bool
  | [], _ => true
  | p :: l, n => if 20000 < n + (p.1.length + p.2.length + 10) then false else lightS l (n + (p.1.length + p.2.length + 10))
theorem light_flat : ∀ (l : List PairL) (n : Nat), lightS l n = true → n ≤ 20000 → n + (flatP l).length ≤ 20000
  | [], n, _, h => h
  | p :: l, n, h, hn => by
    rw [lightS] at h
    split at h
    · cases h
    · rename_i hp
      have ih := light_flat l _ h (by omega)
      rw [flatP, List.length_append, recL_length p (by omega)]
      have hd : digN (prestL p).length ≤ 6 := by
        unfold digN
        repeat' split
        all_goals omega
      have hr : recN p ≤ p.1.length + p.2.length + 10 := by
        show digN (prestL p).length + (prestL p).length ≤ _
        rw [prestL_length] at *
        omega
      omega
end Go.Proofs.YtdjmfkodjjjhfaaGreatDoor
/- Pax: the reference's may and place. Written ahead of stage 18. -/
namespace Go.Proofs.YtdjmfkodjjjhfaaGreatDoor
open Go.RowKit

/-- Where a byte stands first; else the length. -/
def placeL (b : UInt8) : List UInt8 → Nat
  | [] => 0
  | c :: s => if c = b then 0 else placeL b s + 1
set_option maxRecDepth 100000 in
theorem placeL_upto (b : UInt8) : ∀ s : List UInt8, placeL b s = (s.takeWhile (· != b)).length ∧ placeL b s ≤ s.length
  | [] => ⟨rfl, Nat.le_refl _⟩
  | c :: s => by
    obtain ⟨h1, h2⟩ := placeL_upto b s
    rw [placeL, List.takeWhile_cons]
    by_cases e : c = b
    · rw [if_pos e, if_neg (by simp [e])]
      exact ⟨rfl, Nat.zero_le _⟩
    · rw [if_neg e, if_pos (by simpa using e), List.length_cons, List.length_cons, h1]
      exact ⟨rfl, by omega⟩
theorem drop_at (t : ByteArray) (q : Nat) (h : q < t.size) : t.data.toList.drop q = t[q] :: t.data.toList.drop (q + 1) := by
  have hq : q < t.data.toList.length := h
  rw [List.drop_eq_getElem_cons hq]
  rfl

set_option maxHeartbeats 1600000 in
set_option maxRecDepth 100000 in
theorem rplace_any (w : World) (t : ByteArray) (b : UInt8) (hs : t.size ≤ 9223372036854775807) : Calls Tryz.prog 68 #[.string t, .int .u8 b.toNat] w fun e w' => e = .returned (.int .i64 (placeL b t.data.toList)) ∧ w' = w := by
  have HP : Hid (∀ (k : Nat) (w' : World), placeL b t.data.toList = k → w' = w → (fun e w' => e = Ending.returned (.int .i64 (placeL b t.data.toList)) ∧ w' = w) (.returned (.int .i64 k)) w') := Lib.hid fun X w' h hb => ⟨by rw [h], hb⟩
  generalize (fun e w' => e = Ending.returned (.int .i64 (placeL b t.data.toList)) ∧ w' = w) = PO at *
  have HD := Lib.hid (drop_at t)
  have HL : Hid (t.data.toList.drop t.size = []) := Lib.hid (List.drop_length)
  obtain ⟨S, hS⟩ : ∃ S, S = t.data.toList := ⟨_, rfl⟩
  rw [← hS] at HP HD HL
  clear hS
  go_enter Tryz.func68, Tryz.ntmps68
  go_wp2_with fail
  go_loopw [5] (fun si wx => ∃ q : Nat, si = .int .i64 q ∧ q ≤ t.size ∧ wx = w ∧ Hid (placeL b S = q + placeL b (S.drop q))) (fun si _ => t.size - (intOf si).toNat)
  case atStart => exact ⟨0, rfl, Nat.zero_le _, rfl, Lib.hid (by simp)⟩
  case round =>
    obtain ⟨q, rfl, hq, rfl, hJ⟩ := hrel
    by_cases e : q < t.size
    · have dq : decide ((q : Int) < (t.size : Int)) = true := decide_eq_true (by omega)
      have hqz : (q : Int) < t.size := by omega
      have hj := hJ.out
      rw [HD.out q e, placeL] at hj
      by_cases e2 : t[q] = b
      · have f : ((((t[q]).toNat : Nat) : Int) == ((b.toNat : Nat) : Int)) = true := by rw [e2]; exact beq_self_eq_true _
        rw [if_pos e2, Nat.add_zero] at hj
        have HFF := Lib.hid (HP.out _ wr hj rfl)
        clear hj hJ e2
        go_wp2_with fail
        exact HFF.out
      · have f : ((((t[q]).toNat : Nat) : Int) == ((b.toNat : Nat) : Int)) = false := by
          refine beq_false_of_ne fun h => e2 ?_
          apply UInt8.toNat_inj.1
          omega
        rw [if_neg e2] at hj
        have HJ2 := Lib.hid (show placeL b S = q + 1 + placeL b (S.drop (q + 1)) by omega)
        clear hj hJ e2
        go_wp2_with fail
        go_roundw
        case rel => exact ⟨q + 1, by go_num, by omega, by first | rfl | trivial, HJ2⟩
        case measure => simp [intOf]; omega
    · obtain rfl : q = t.size := by omega
      have dq : decide ((t.size : Int) < (t.size : Int)) = false := decide_eq_false (by omega)
      have hj := hJ.out
      rw [HL.out, placeL, Nat.add_zero] at hj
      have HFF := Lib.hid (HP.out _ wr hj rfl)
      clear hj hJ
      go_wp2_with fail
      exact HFF.out
set_option maxHeartbeats 1600000 in
set_option maxRecDepth 100000 in
theorem rkey_any (w : World) (t : ByteArray) (hs : t.size ≤ 9223372036854775807) : Calls Tryz.prog 59 #[.string t] w fun e w' => e = .returned (.bool (decide (keyK t.data.toList))) ∧ w' = w := by
  have HP : Hid (∀ (k : Bool) (w' : World), decide (keyK t.data.toList) = k → w' = w → (fun e w' => e = Ending.returned (.bool (decide (keyK t.data.toList))) ∧ w' = w) (.returned (.bool k)) w') := Lib.hid fun X w' h hb => ⟨by rw [h], hb⟩
  generalize (fun e w' => e = Ending.returned (.bool (decide (keyK t.data.toList))) ∧ w' = w) = PO at *
  have HD := Lib.hid (drop_at t)
  have HL : Hid (t.data.toList.drop t.size = []) := Lib.hid (List.drop_length)
  have HN : Hid (t.data.toList = [] ↔ t.size = 0) := Lib.hid ⟨fun h => by show t.data.toList.length = 0; rw [h]; rfl, fun h => List.eq_nil_of_length_eq_zero h⟩
  obtain ⟨S, hS⟩ : ∃ S, S = t.data.toList := ⟨_, rfl⟩
  rw [← hS] at HP HD HL HN
  have hne : t.toList.isEmpty = decide (S = []) := by
    rw [ByteArray.toList_eq, hS]
    cases t.data.toList with
    | nil => rfl
    | cons x l => rfl
  clear hS
  go_enter Tryz.func59, Tryz.ntmps59
  go_wp2_with fail
  go_loopw [3] (fun si wx => ∃ q : Nat, si = .int .i64 q ∧ q ≤ t.size ∧ wx = w ∧ Hid ((61 : UInt8) ∈ S ↔ (61 : UInt8) ∈ S.drop q)) (fun si _ => t.size - (intOf si).toNat)
  case atStart => exact ⟨0, rfl, Nat.zero_le _, rfl, Lib.hid (by simp)⟩
  case round =>
    obtain ⟨q, rfl, hq, rfl, hJ⟩ := hrel
    by_cases e : q < t.size
    · have dq : decide ((q : Int) < (t.size : Int)) = true := decide_eq_true (by omega)
      have hqz : (q : Int) < t.size := by omega
      have hj := hJ.out
      rw [HD.out q e, List.mem_cons] at hj
      by_cases e2 : t[q] = 61
      · have f : ((((t[q]).toNat : Nat) : Int) == 61) = true := by rw [e2]; rfl
        have HFF := Lib.hid (HP.out false wr (decide_eq_false fun hk => hk.2 (hj.2 (.inl e2.symm))) rfl)
        clear hj hJ e2 hne
        go_wp2_with fail
        exact HFF.out
      · have f : ((((t[q]).toNat : Nat) : Int) == 61) = false := by
          refine beq_false_of_ne fun h => e2 ?_
          apply UInt8.toNat_inj.1
          show (t[q]).toNat = 61
          omega
        have HJ2 := Lib.hid (show (61 : UInt8) ∈ S ↔ (61 : UInt8) ∈ S.drop (q + 1) from hj.trans ⟨fun h => h.resolve_left fun h => e2 h.symm, .inr⟩)
        clear hj hJ e2 hne
        go_wp2_with fail
        go_roundw
        case rel => exact ⟨q + 1, by go_num, by omega, by first | rfl | trivial, HJ2⟩
        case measure => simp [intOf]; omega
    · obtain rfl : q = t.size := by omega
      have dq : decide ((t.size : Int) < (t.size : Int)) = false := decide_eq_false (by omega)
      have hj := hJ.out
      rw [HL.out] at hj
      have hno : (61 : UInt8) ∉ S := fun h => by cases hj.1 h
      by_cases hz : S = []
      · rw [decide_eq_true hz] at hne
        have HFF := Lib.hid (HP.out false wr (decide_eq_false fun hk => hk.1 hz) rfl)
        clear hj hJ hz hno
        go_wp2_with fail
        exact HFF.out
      · rw [decide_eq_false hz] at hne
        have HFF := Lib.hid (HP.out true wr (decide_eq_true ⟨hz, hno⟩) rfl)
        clear hj hJ hz hno
        go_wp2_with fail
        exact HFF.out
end Go.Proofs.YtdjmfkodjjjhfaaGreatDoor
/- Pax: pairs in memory; the reference's Last and Same, the law's light. Written ahead of stage 17. -/
namespace Go.Proofs.YtdjmfkodjjjhfaaGreatDoor
open Go.RowKit

abbrev PairB := ByteArray × ByteArray
def noB : PairB := (⟨#[]⟩, ⟨#[]⟩)
/-- Pairs that are read: two cells each. -/
def PIn (w : World) (A : Option Addr) (n : Nat) (L : List PairB) : Prop := L.length = n ∧ (0 < n → ∃ b off, A = some ⟨b, off, none⟩ ∧ ∀ i, i < n → w.cell? ⟨b, off + i * 2, none⟩ = some (.string (L.getD i noB).1) ∧ w.cell? ⟨b, off + i * 2 + 1, none⟩ = some (.string (L.getD i noB).2))
theorem PIn.below {w w' : World} {A : Option Addr} {n : Nat} {L : List PairB} (h : PIn w A n L) (hb : Below w.heap.size w w') : PIn w' A n L := by
  refine ⟨h.1, fun hn => ?_⟩
  obtain ⟨b, off, rfl, hc⟩ := h.2 hn
  exact ⟨b, off, rfl, fun i hi => ⟨(hb.cell (p := ⟨b, _, none⟩) (World.block_lt_of_cell? w _ (hc i hi).1)).trans (hc i hi).1, (hb.cell (p := ⟨b, _, none⟩) (World.block_lt_of_cell? w _ (hc i hi).2)).trans (hc i hi).2⟩⟩
theorem pbytes_same (a b : ByteArray) : (a.toList == b.toList) = true ↔ a = b := by
  rw [ByteArray.toList_eq, ByteArray.toList_eq, beq_iff_eq]
  constructor
  · intro h
    apply ByteArray.ext
    exact Array.toList_inj.1 h
  · exact fun h => by rw [h]
theorem bytes_eql (a b : ByteArray) : (a.toList == b.toList) = decide (a = b) := by
  by_cases h : a = b
  · rw [decide_eq_true h]
    exact (pbytes_same a b).2 h
  · rw [decide_eq_false h, ← Bool.not_eq_true]
    exact fun hs => h ((pbytes_same a b).1 hs)
/-- The answer's two parts. -/
def optS (v : Option ByteArray) : ByteArray := v.getD ⟨#[]⟩
def optB (v : Option ByteArray) : Bool := v.isSome
theorem last_next (k : ByteArray) (L : List PairB) (q : Nat) (hq : q < L.length) (v : Option ByteArray) : lastA k (L.take (q + 1)) v = if (L.getD q noB).1 = k then some (L.getD q noB).2 else lastA k (L.take q) v := by
  rw [List.take_succ_eq_append_getElem hq, lastA_append, lastA, lastA, List.getD_eq_getElem?_getD, List.getElem?_eq_getElem hq]
  rfl

set_option maxHeartbeats 3200000 in
set_option maxRecDepth 100000 in
theorem rlast_any (w : World) (A : Option Addr) (n c : Nat) (L : List PairB) (k : ByteArray) (hI : PIn w A n L) (hn : n ≤ maxLen) :
    Calls Tryz.prog 40 #[.slice A n c, .string k] w fun e w' => e = .returned (.tuple #[.string (optS (lastA k L none)), .bool (optB (lastA k L none))]) ∧ Below w.heap.size w w' := by
  have HI := Lib.hid hI
  have HNX := Lib.hid (last_next k L)
  have hlen := hI.1
  have HL : Hid (lastA k (L.take n) none = lastA k L none) := Lib.hid (by rw [← hlen, List.take_length])
  have H0 : Hid (lastA k (L.take 0) none = none) := Lib.hid rfl
  have HP : Hid (∀ w' : World, Below w.heap.size w w' → (fun e w' => e = Ending.returned (.tuple #[.string (optS (lastA k L none)), .bool (optB (lastA k L none))]) ∧ Below w.heap.size w w') (.returned (.tuple #[.string (optS (lastA k L none)), .bool (optB (lastA k L none))])) w') := Lib.hid fun w' h => ⟨rfl, h⟩
  generalize (fun e w' => e = Ending.returned (.tuple #[.string (optS (lastA k L none)), .bool (optB (lastA k L none))]) ∧ Below w.heap.size w w') = PO at *
  have HLEN := Lib.hid hlen
  unfold maxLen at hn
  generalize lastA k L none = V at *
  generalize hZ : (fun q => lastA k (L.take q) none) = Z at *
  have HZ : Hid (∀ q, lastA k (L.take q) none = Z q) := Lib.hid fun q => by rw [← hZ]
  clear hZ hI hlen
  go_enter Tryz.func40, Tryz.ntmps40
  go_wp2_with fail
  go_loopw [6, 7, 8] (fun sv ss si wx => ∃ q : Nat, sv = .string (optS (Z q)) ∧ ss = .bool (optB (Z q)) ∧ si = .int .i64 q ∧ q ≤ n ∧ Below w.heap.size w wx) (fun _ _ si _ => n - (intOf si).toNat)
  case atStart =>
    refine ⟨0, ?_, ?_, rfl, Nat.zero_le _, Below.refl _ _⟩
    · rw [← HZ.out, H0.out]
      rfl
    · rw [← HZ.out, H0.out]
      rfl
  case round =>
    obtain ⟨q, rfl, rfl, rfl, hqn, hbx⟩ := hrel
    have HBX := Lib.hid hbx
    by_cases e : q < n
    · have d2 : decide ((q : Int) < (n : Int)) = true := decide_eq_true (by omega)
      obtain ⟨b, off, hA, hc⟩ := (HI.out.below hbx).2 (by omega)
      obtain ⟨c1, c2⟩ := hc q e
      have hnx := HNX.out q (by rw [HLEN.out]; exact e) none
      rw [HZ.out, HZ.out] at hnx
      obtain ⟨K, hK⟩ : ∃ K, K = (L.getD q noB).1 := ⟨_, rfl⟩
      obtain ⟨U, hU⟩ : ∃ U, U = (L.getD q noB).2 := ⟨_, rfl⟩
      rw [← hK] at c1 hnx
      rw [← hU] at c2 hnx
      subst hA
      clear hc hK hU hbx
      by_cases ek : K = k
      · have hs : (K.toList == k.toList) = true := (pbytes_same K k).2 ek
        rw [if_pos ek] at hnx
        have HNXT := Lib.hid hnx
        clear hnx ek
        go_wp2_with fail
        go_roundw
        case rel => exact ⟨q + 1, by rw [HNXT.out]; rfl, by rw [HNXT.out]; rfl, by go_num, by omega, HBX.out⟩
        case measure => simp [intOf]; omega
      · have hs : (K.toList == k.toList) = false := by rw [bytes_eql, decide_eq_false ek]
        rw [if_neg ek] at hnx
        have HNXT := Lib.hid hnx
        clear hnx ek
        go_wp2_with fail
        go_roundw
        case rel => exact ⟨q + 1, by rw [HNXT.out], by rw [HNXT.out], by go_num, by omega, HBX.out⟩
        case measure => simp [intOf]; omega
    · obtain rfl : q = n := by omega
      have d2 : decide ((q : Int) < (q : Int)) = false := decide_eq_false (by omega)
      have hv : Z q = V := by rw [← HZ.out, HL.out]
      rw [hv]
      have HF := Lib.hid (HP.out _ hbx)
      clear hbx hv
      go_wp2_with fail
      exact HF.out
end Go.Proofs.YtdjmfkodjjjhfaaGreatDoor
