/- In Ro Ma Mb Mc: texts laid together, what is not used left out. -/
import Derived.Test.YtmgmgmbpldboiaaGreatZ00
import Derived.Test.YtmgmgmbpldboiaaGreatZ19
import Derived.Laws.StructEq
namespace Go.Proofs.YtmgmgmbpldboiaaGreat
open Go.RowKit

set_option maxHeartbeats 1600000 in
set_option maxRecDepth 100000 in
theorem ints_same (w : World) (A B : Option Addr) (n c d : Nat) (L : List Nat) (h : IntsIn w A n L) (k : IntsIn w B n L) (hn : n ≤ 1000000) :
    Calls Tryz.prog 13 #[.slice A n c, .slice B n d] w fun e w' => e = .returned (.bool true) ∧ ∃ m, w' = w.drewN m := by
  have d0 : ((n : Int) != (n : Int)) = false := by simp
  have H := Lib.hid h
  have K := Lib.hid k
  clear h k
  go_enter Tryz.func13, Tryz.ntmps13
  go_wp2_with fail
  go_loopw [5] (fun x wr => ∃ q : Nat, q ≤ n ∧ x = .int .i64 q ∧ ∃ m, wr = w.drewN m) (fun x _ => n - (intOf x).toNat)
  case atStart => exact ⟨0, Nat.zero_le _, rfl, 0, rfl⟩
  case round =>
    obtain ⟨q, hq, rfl, hd⟩ := hrel
    have HD := Lib.hid hd
    by_cases e : q < n
    · obtain ⟨b1, o1, rfl, hc1⟩ := H.out.2 (by omega)
      obtain ⟨b2, o2, rfl, hc2⟩ := K.out.2 (by omega)
      have c1 : wr.cell? ⟨b1, o1 + q, none⟩ = some (.int .i64 (L.getD q 0)) := by obtain ⟨m, rfl⟩ := hd; exact hc1 q e
      have c2 : wr.cell? ⟨b2, o2 + q, none⟩ = some (.int .i64 (L.getD q 0)) := by obtain ⟨m, rfl⟩ := hd; exact hc2 q e
      obtain ⟨v, hv⟩ : ∃ v, v = L.getD q 0 := ⟨_, rfl⟩
      rw [← hv] at c1 c2
      clear hv hd hc1 hc2
      have d1 : decide ((q : Int) < (n : Int)) = true := decide_eq_true (by omega)
      have d2 : ((v : Int) != (v : Int)) = false := by simp
      go_wp2_with fail
      go_quiet (fail)
      go_wp2_with fail
      go_roundw
      case rel =>
        obtain ⟨m, hm⟩ := HD.out
        exact ⟨q + 1, by omega, by go_num, m + nq, by rw [hm]; simp⟩
      case measure => simp [intOf]; omega
    · have d1 : decide ((q : Int) < (n : Int)) = false := decide_eq_false (by omega)
      clear hd
      go_wp2_with fail
      go_ret
      exact ⟨rfl, HD.out⟩

end Go.Proofs.YtmgmgmbpldboiaaGreat
namespace Go.Proofs.YtmgmgmbpldboiaaGreat
open Go.RowKit

set_option maxRecDepth 100000 in
theorem of_any (w : World) (s : ByteArray) (hs : s.size ≤ 1000000) :
    Calls Tryz.prog 20 #[.string s] w fun e w' => ∃ v, e = .returned v ∧ w'.ownsRow w.heap.size 3 1 v (8 * s.size) ((bitsB s.data.toList).map iv) ∧ Below w.heap.size w w' := by
  obtain ⟨i3, hi, hz0, hz1, hz2⟩ := info_parts Tryz.info3
  go_enter Tryz.func20, Tryz.ntmps20
  go_wp2
  go_loopw [3, 4] (fun v i wr => ∃ j : Nat, j ≤ s.size ∧ i = .int .i64 j ∧ wr.ownsRow w.heap.size 3 1 v (8 * j) ((bitsB (s.data.toList.take j)).map iv) ∧ Below w.heap.size w wr) (fun _ i _ => s.size - (intOf i).toNat)
  case atStart => exact ⟨0, Nat.zero_le _, rfl, World.ownsRow_nil _ _ _ _, Below.refl _ _⟩
  case round =>
    obtain ⟨j, hj, rfl, hown, hb⟩ := hrel
    rename_i v0 _
    have hsize := hb.size
    by_cases h : j < s.size
    · go_wp2
      obtain ⟨wo, ho⟩ : ∃ wo : World, wo = wr := ⟨_, rfl⟩
      have HO := Lib.hid ho
      clear ho
      go_loopw [3, 5] (fun v k wx => ∃ m r : Nat, m + r = 8 ∧ k = .int .i64 ((r : Int) - 1) ∧ wx.ownsRow w.heap.size 3 1 v (8 * j + m) ((bitsB (s.data.toList.take j) ++ (bitsN (s[j]).toNat 8).take m).map iv) ∧ Below w.heap.size w wx) (fun _ k _ => (intOf k + 1).toNat)
      case atStart => exact ⟨0, 8, rfl, rfl, by simpa using hown, hb⟩
      case round =>
        obtain ⟨m, r, hmr, rfl, hown1, hb1⟩ := hrel
        have hmr1 : m ≤ 8 := by omega
        have hsize1 := hb1.size
        match r, hmr with
        | 0, hmr =>
          obtain rfl : m = 8 := by omega
          have e1 : ((0 : Nat) : Int) - 1 = -1 := rfl
          rw [e1]
          clear e1
          have hown4 := hown1
          rw [List.take_of_length_le (show (bitsN (s[j]).toNat 8).length ≤ 8 by rw [bitsN_length]; exact Nat.le_refl _)] at hown4
          have HT : Hid (s.data.toList.take (j + 1) = s.data.toList.take j ++ [s[j]]) := by
            have hjl : j < s.data.toList.length := by simpa using h
            exact List.take_succ_eq_append_getElem hjl
          go_wp2
          go_roundw
          case rel =>
            refine ⟨j + 1, h, by go_num, ?_, hb1⟩
            rw [HT.out, bitsB_append, bitsB_cons, bitsB_nil, List.append_nil]
            exact hown4
          case measure => simp [intOf]; omega
        | q + 1, hmr =>
          have e1 : ((q + 1 : Nat) : Int) - 1 = (q : Int) := by omega
          rw [e1]
          clear e1
          have hq : (q : Int) ≤ 7 := by omega
          obtain ⟨xs, hxs⟩ : ∃ xs, xs = (bitsB (s.data.toList.take j) ++ (bitsN (s[j]).toNat 8).take m).map iv := ⟨_, rfl⟩
          rw [← hxs] at hown1
          have HX := Lib.hid hxs
          clear hxs
          have hbyte : (s[j].toNat : Int) < 256 := by have := s[j].toNat_lt; omega
          go_wp2_with (at_builtin; refine wpList_append_own _ rfl _ _ 22 rfl w.heap.size 3 i3 (.int .i64 0) 1 8 Tryz.underlying22 hi hz0 hz1 hz2 rfl (by decide) _ _ _ rfl (hown1.alloc _) ⟨wr.heap.size, 0, none⟩ 1 1 [.int .i64 (bits BinOp.and IntKind.i64 (s[j].toNat / 2 ^ q) 1)] rfl rfl ?c1 ?c2 ?c3 ?c4 ?c5 ?_)
          case c1 => exact cell_one_new _ _ _
          case c2 => intro u hu; simp at hu; subst hu; rfl
          case c3 => unfold maxLen; omega
          case c4 => omega
          case c5 => simp; omega
          intro v2 w2 hown2 hgrow2 _
          have hb2 : Below w.heap.size w w2 := (hb1.alloc hsize1 _).grown hgrow2 (by simp; omega) (fun k hk => (hown1.lt k hk).1)
          have HE := bit_and _ q s[j].toNat_lt
          rw [HE] at hown2
          clear HE
          have hown3 : w2.ownsRow w.heap.size 3 1 v2 (8 * j + (m + 1)) ((bitsB (s.data.toList.take j) ++ (bitsN (s[j]).toNat 8).take (m + 1)).map iv) := by
            have hg := bitsN_get 8 (s[j]).toNat m (by omega)
            rw [List.take_add_one, hg, ← List.append_assoc, List.map_append, ← HX.out, show 8 - 1 - m = q by omega, ← Nat.add_assoc]
            exact hown2
          clear hown2 hgrow2 hown1 hb1
          go_wp2
          go_roundw
          case rel => exact ⟨m + 1, q, by omega, rfl, hown3, hb2⟩
          case measure => simp [intOf]
    · obtain rfl : j = s.size := by omega
      go_wp2
      go_ret
      refine ⟨_, rfl, ?_, hb⟩
      rw [List.take_of_length_le (by simp)] at hown
      exact hown

end Go.Proofs.YtmgmgmbpldboiaaGreat
namespace Go.Proofs.YtmgmgmbpldboiaaGreat
open Go.RowKit

set_option maxRecDepth 100000 in
/-- A plan of two tables of three lengths and one pick, written down. -/
theorem plan_lit (w0 : World) (a b c : Int) (x : Int) (o : Obj) : let z := w0.heap.size
    PlanIn (((((w0.alloc o).alloc (.cells #[.int .i64 a, .int .i64 b, .int .i64 c] 3)).alloc (.cells #[.int .i64 a, .int .i64 b, .int .i64 c] 3)).alloc (.cells #[.slice (some ⟨z + 1, 0, none⟩) 3 3, .slice (some ⟨z + 1 + 1, 0, none⟩) 3 3] 22)).alloc (.cells #[.int .i64 x] 3))
      (.agg #[.slice (some ⟨z + 1 + 1 + 1, 0, none⟩) 2 2, .slice (some ⟨z + 1 + 1 + 1 + 1, 0, none⟩) 1 1]) [[a, b, c], [a, b, c]] [x] ∧
    Below w0.heap.size w0 (((((w0.alloc o).alloc (.cells #[.int .i64 a, .int .i64 b, .int .i64 c] 3)).alloc (.cells #[.int .i64 a, .int .i64 b, .int .i64 c] 3)).alloc (.cells #[.slice (some ⟨z + 1, 0, none⟩) 3 3, .slice (some ⟨z + 1 + 1, 0, none⟩) 3 3] 22)).alloc (.cells #[.int .i64 x] 3)) := by
  intro z
  obtain ⟨w1, hw1⟩ : ∃ w1, w1 = w0.alloc o := ⟨_, rfl⟩
  obtain ⟨w2, hw2⟩ : ∃ w2, w2 = w1.alloc (.cells #[.int .i64 a, .int .i64 b, .int .i64 c] 3) := ⟨_, rfl⟩
  obtain ⟨w3, hw3⟩ : ∃ w3, w3 = w2.alloc (.cells #[.int .i64 a, .int .i64 b, .int .i64 c] 3) := ⟨_, rfl⟩
  obtain ⟨w4, hw4⟩ : ∃ w4, w4 = w3.alloc (.cells #[.slice (some ⟨z + 1, 0, none⟩) 3 3, .slice (some ⟨z + 1 + 1, 0, none⟩) 3 3] 22) := ⟨_, rfl⟩
  obtain ⟨w5, hw5⟩ : ∃ w5, w5 = w4.alloc (.cells #[.int .i64 x] 3) := ⟨_, rfl⟩
  rw [← hw1, ← hw2, ← hw3, ← hw4, ← hw5]
  have s1 : w1.heap.size = z + 1 := by rw [hw1]; simp [z]
  have s2 : w2.heap.size = z + 1 + 1 := by rw [hw2]; simp [s1]
  have s3 : w3.heap.size = z + 1 + 1 + 1 := by rw [hw3]; simp [s2]
  have s4 : w4.heap.size = z + 1 + 1 + 1 + 1 := by rw [hw4]; simp [s3]
  have b1 : Below w0.heap.size w0 w1 := by rw [hw1]; exact (Below.refl _ _).alloc (Nat.le_refl _) _
  have b2 : Below w1.heap.size w1 w2 := by rw [hw2]; exact (Below.refl _ _).alloc (Nat.le_refl _) _
  have b3 : Below w2.heap.size w2 w3 := by rw [hw3]; exact (Below.refl _ _).alloc (Nat.le_refl _) _
  have b4 : Below w3.heap.size w3 w4 := by rw [hw4]; exact (Below.refl _ _).alloc (Nat.le_refl _) _
  have b5 : Below w4.heap.size w4 w5 := by rw [hw5]; exact (Below.refl _ _).alloc (Nat.le_refl _) _
  have k2 : Blk w2 (z + 1) 3 #[.int .i64 a, .int .i64 b, .int .i64 c] := by rw [← s1, hw2]; exact blk_new w1 _ _
  have k3 : Blk w3 (z + 1 + 1) 3 #[.int .i64 a, .int .i64 b, .int .i64 c] := by rw [← s2, hw3]; exact blk_new w2 _ _
  have k4 : Blk w4 (z + 1 + 1 + 1) 22 #[.slice (some ⟨z + 1, 0, none⟩) 3 3, .slice (some ⟨z + 1 + 1, 0, none⟩) 3 3] := by rw [← s3, hw4]; exact blk_new w3 _ _
  have k5 : Blk w5 (z + 1 + 1 + 1 + 1) 3 #[.int .i64 x] := by rw [← s4, hw5]; exact blk_new w4 _ _
  have k25 := (step_of_below b5).blk ((step_of_below b4).blk ((step_of_below b3).blk k2 List.not_mem_nil List.not_mem_nil) List.not_mem_nil List.not_mem_nil) List.not_mem_nil List.not_mem_nil
  have k35 := (step_of_below b5).blk ((step_of_below b4).blk k3 List.not_mem_nil List.not_mem_nil) List.not_mem_nil List.not_mem_nil
  have k45 := (step_of_below b5).blk k4 List.not_mem_nil List.not_mem_nil
  have zin : ∀ g, Blk w5 g 3 #[.int .i64 a, .int .i64 b, .int .i64 c] → ZIn w5 (some ⟨g, 0, none⟩) 3 [a, b, c] := fun g hg => ⟨rfl, fun _ => ⟨g, 0, rfl, fun i hi => by
    rw [Nat.zero_add, blk_cell hg]
    have : i = 0 ∨ i = 1 ∨ i = 2 := by omega
    rcases this with rfl | rfl | rfl <;> rfl⟩⟩
  have h3 : (3 : Nat) ≤ maxLen := by unfold maxLen; omega
  refine ⟨⟨_, 2, 2, _, 1, 1, rfl, ⟨rfl, fun _ => ⟨z + 1 + 1 + 1, 0, rfl, fun i hi => ?_⟩⟩, Nat.le_refl _, by unfold maxLen; omega, ⟨rfl, fun _ => ⟨z + 1 + 1 + 1 + 1, 0, rfl, fun i hi => ?_⟩⟩, Nat.le_refl _, by unfold maxLen; omega⟩, ?_⟩
  · rw [Nat.zero_add, blk_cell k45]
    have : i = 0 ∨ i = 1 := by omega
    rcases this with rfl | rfl
    · exact ⟨_, 3, rfl, zin _ k25, Nat.le_refl _, h3⟩
    · exact ⟨_, 3, rfl, zin _ k35, Nat.le_refl _, h3⟩
  · rw [Nat.zero_add, blk_cell k5]
    have : i = 0 := by omega
    subst this
    rfl
  · exact b1.trans (((((b2.trans (b3.mono b2.size)).trans (b4.mono (Nat.le_trans b2.size b3.size))).trans (b5.mono (Nat.le_trans b2.size (Nat.le_trans b3.size b4.size)))).mono b1.size))

set_option maxHeartbeats 1600000 in
set_option maxRecDepth 100000 in
theorem lflat_any (w : World) : Calls Tryz.prog 29 #[] w fun e w' => ∃ v, e = .returned v ∧ PlanIn w' v [[1, 2, 2], [1, 2, 2]] [0] ∧ Below w.heap.size w w' := by
  have H := Lib.hid fun (o : Obj) => plan_lit w 1 2 2 0 o
  go_enter Tryz.func29, Tryz.ntmps29
  go_wp2_with fail
  have h := H.out (.cells #[.slice (some ⟨w.heap.size + 1 + 1 + 1, 0, none⟩) 2 2, .slice (some ⟨w.heap.size + 1 + 1 + 1 + 1, 0, none⟩) 1 1] 26)
  refine bodyPost_ret (v := .agg #[.slice (some ⟨w.heap.size + 1 + 1 + 1, 0, none⟩) 2 2, .slice (some ⟨w.heap.size + 1 + 1 + 1 + 1, 0, none⟩) 1 1]) ?_ rfl ⟨_, rfl, h.1, h.2⟩
  simp [results, Tryz.results29, go_sem]

end Go.Proofs.YtmgmgmbpldboiaaGreat
namespace Go.Proofs.YtmgmgmbpldboiaaGreat
open Go.RowKit

/-- Plans that are light. -/
def LightP (T : List (List Int)) (P : List Int) : Prop := T.length ≤ 10 ∧ P.length ≤ 3000 ∧ ∀ t ∈ T, t.length ≤ 3000
/-- What is asked of the code's functions: lists of at most 3001 symbols, texts of at most 40000 bytes, light plans. -/
structure GroupsDone : Prop where
  tables : ∀ (w : World) (m : Int), -9223372036854775808 ≤ m → m ≤ 9223372036854775807 → Calls Tryz.prog 30 #[.int .i64 m] w fun e w' => e = .returned (.tuple #[.int .i64 (tablesAns m).1, .int .i64 (tablesAns m).2]) ∧ Below w.heap.size w w'
  choose : ∀ (w : World) (A : Option Addr) (n c : Nat) (L : List Int) (m : Int), ZIn w A n L → n ≤ c → n ≤ 3001 → -9223372036854775808 ≤ m → m ≤ 9223372036854775807 → Calls Tryz.prog 10 #[.slice A n c, .int .i64 m] w (PlanPost w (chooseAns L m))
  flat : ∀ (w : World) (A : Option Addr) (n c : Nat) (L : List Int) (m : Int), ZIn w A n L → n ≤ c → n ≤ 3001 → -9223372036854775808 ≤ m → m ≤ 9223372036854775807 → Calls Tryz.prog 14 #[.slice A n c, .int .i64 m] w (PlanPost w (flatAns L m))
  best : ∀ (w : World) (A : Option Addr) (n c : Nat) (L : List Int) (m : Int), ZIn w A n L → n ≤ c → n ≤ 3001 → -9223372036854775808 ≤ m → m ≤ 9223372036854775807 → Calls Tryz.prog 16 #[.slice A n c, .int .i64 m] w (PlanPost w (bestAns L m))
  size : ∀ (w : World) (v : Value) (T : List (List Int)) (P : List Int) (A : Option Addr) (n c : Nat) (L : List Int), PlanIn w v T P → LightP T P → ZIn w A n L → n ≤ c → n ≤ 3001 → Calls Tryz.prog 24 #[v, .slice A n c] w fun e w' => e = .returned (.tuple #[.int .i64 (sizeG T P L).1, .int .i64 (sizeG T P L).2]) ∧ Below w.heap.size w w'
  shows : ∀ (w : World) (v : Value) (T : List (List Int)) (P : List Int), PlanIn w v T P → LightP T P → Calls Tryz.prog 26 #[v] w (BitsPost w (bitsG T P))
  takes : ∀ (w : World) (s : ByteArray) (at' n : Int), s.size ≤ 40000 → -9223372036854775808 ≤ at' → at' ≤ 9223372036854775807 → -9223372036854775808 ≤ n → n ≤ 9223372036854775807 → Calls Tryz.prog 18 #[.string s, .int .i64 at', .int .i64 n] w (Plan3 w (takeG (bitsB s.data.toList) at' n))
  puts : ∀ (w : World) (v : Value) (T : List (List Int)) (P : List Int) (A : Option Addr) (n c : Nat) (L : List Int), PlanIn w v T P → LightP T P → ZIn w A n L → n ≤ c → n ≤ 3001 → Calls Tryz.prog 22 #[v, .slice A n c] w (BitsPost w (codesG T P L))
  gets : ∀ (w : World) (v : Value) (T : List (List Int)) (P : List Int) (s : ByteArray) (at' : Int), PlanIn w v T P → LightP T P → s.size ≤ 40000 → -9223372036854775808 ≤ at' → at' ≤ 9223372036854775807 → Calls Tryz.prog 27 #[v, .string s, .int .i64 at'] w (AllPost w (getG T P (bitsB s.data.toList) at'))
  full : ∀ (w : World) (A : Option Addr) (n c : Nat) (L : List Int), ZIn w A n L → n ≤ c → n ≤ maxLen → Calls Tryz.prog 28 #[.slice A n c] w fun e w' => e = .returned (.bool (decide (LenOk L ∧ kraftL L = 1048576))) ∧ Below w.heap.size w w'

theorem flat_three : flatAns [0, 1, 2] 3 = ([[1, 2, 2], [1, 2, 2]], [0], 0) := by decide +kernel
theorem bits_lit : (bitsG [[1, 2, 2], [1, 2, 2]] [0]).1.length = 39 ∧ (bitsG [[1, 2, 2], [1, 2, 2]] [0]).2 = 0 := by decide +kernel
theorem get_lit : getG [[1, 2, 2], [1, 2, 2]] [0] (bitsB [96]) 0 = ([0, 2], 3, 0) := by decide +kernel
set_option maxRecDepth 100000 in
theorem light_lit : LightP [[1, 2, 2], [1, 2, 2]] [0] := by
  refine ⟨by decide, by decide, fun t ht => ?_⟩
  rcases List.mem_cons.1 ht with h | h
  · rw [h]
    decide
  · rw [List.mem_singleton.1 h]
    decide
theorem PlanIn.drew {w : World} {v : Value} {T : List (List Int)} {P : List Int} (h : PlanIn w v T P) : PlanIn w.drew v T P := h.below ((Below.refl _ _).drew)
theorem PlanIn.parts {w : World} {v : Value} {T : List (List Int)} {P : List Int} (h : PlanIn w v T P) : ∃ A n c B m d, v = .agg #[.slice A n c, .slice B m d] ∧ PlanIn w (.agg #[.slice A n c, .slice B m d]) T P := by
  obtain ⟨A, n, c, B, m, d, hv, hr⟩ := id h
  exact ⟨A, n, c, B, m, d, hv, by rw [← hv]; exact h⟩
set_option maxRecDepth 100000 in
theorem lit_pair (w : World) (x y : Nat) : IntsIn (w.alloc (.cells #[.int .i64 x, .int .i64 y] 3)) (some ⟨w.heap.size, 0, none⟩) 2 [x, y] := by
  refine ⟨rfl, fun _ => ⟨w.heap.size, 0, rfl, fun i hi => ?_⟩⟩
  rw [Nat.zero_add, blk_cell (blk_new w 3 _)]
  have : i = 0 ∨ i = 1 := by omega
  rcases this with rfl | rfl <;> rfl

section
variable (R : GroupsDone)
include R
set_option maxHeartbeats 3200000 in
set_option maxRecDepth 100000 in
theorem awake_any (w : World) : Calls Tryz.prog 9 #[] w fun e w' => e = .returned (.bool true) ∧ Below w.heap.size w w' := by
  obtain ⟨w1, hw1⟩ : ∃ w1, w1 = w.alloc (.cells #[.int .i64 0, .int .i64 1, .int .i64 2] 3) := ⟨_, rfl⟩
  have hb1 : Below w.heap.size w w1 := by rw [hw1]; exact (Below.refl _ _).alloc (Nat.le_refl _) _
  have hz1 : ZIn w1 (some ⟨w.heap.size, 0, none⟩) 3 [0, 1, 2] := by rw [hw1]; exact zin_lit w [0, 1, 2]
  have HFL := Lib.hid (R.flat w1 _ 3 3 [0, 1, 2] 3 hz1 (Nat.le_refl _) (by omega) (by omega) (by omega))
  rw [flat_three] at HFL
  have HLF := Lib.hid lflat_any
  have HSH := Lib.hid R.shows
  have HGT := Lib.hid R.gets
  have HTB := Lib.hid (fun wx => R.tables wx 200 (by omega) (by omega))
  have HB1 := Lib.hid hb1
  clear hb1 hz1 R
  go_enter Tryz.func9, Tryz.ntmps9
  go_wp2_with fail
  rw [← hw1]
  clear hw1
  refine HFL.out.mono ?_
  rintro e w2 ⟨v2, rfl, hp2, hb2⟩
  obtain ⟨A2, n2, c2, B2, m2, d2, rfl, hpl2⟩ := hp2.parts
  have hb23 : Below w2.heap.size w2 (w2.alloc (.cells #[.slice A2 n2 c2, .slice B2 m2 d2] 26)) := (Below.refl _ _).alloc (Nat.le_refl _) _
  have HK3 := Lib.hid (blk_new w2 26 #[.slice A2 n2 c2, .slice B2 m2 d2])
  have HB3 := Lib.hid (HB1.out.trans ((hb2.trans (hb23.mono hb2.size)).mono HB1.out.size))
  have HPA := Lib.hid (hpl2.below hb23)
  clear hb2 hb23 hp2 hpl2 HFL
  go_upto_region 2 with fail
  generalize w2.alloc (.cells #[.slice A2 n2 c2, .slice B2 m2 d2] 26) = w3 at *
  generalize w2.heap.size = g1 at *
  go_wp2_with fail
  refine (HLF.out w3).mono ?_
  rintro e w4 ⟨v4, rfl, hp4, hb4⟩
  have HS4 := Lib.hid (HSH.out w4 v4 _ _ hp4 light_lit)
  have HK4 := Lib.hid ((step_of_below hb4).blk HK3.out List.not_mem_nil List.not_mem_nil)
  have HB4 := Lib.hid (HB3.out.trans (hb4.mono HB3.out.size))
  have HPA4 := Lib.hid (HPA.out.below hb4)
  clear hb4 hp4 HK3 HB3 HPA
  go_wp2_with fail
  refine HS4.out.mono ?_
  rintro e w5 ⟨rfl, hb5⟩
  rw [bits_lit.1, bits_lit.2]
  obtain ⟨T5, hT5⟩ : ∃ T5, T5 = (⟨(pack (bitsG [[1, 2, 2], [1, 2, 2]] [0]).1).toArray⟩ : ByteArray) := ⟨_, rfl⟩
  rw [← hT5]
  have hb56 : Below w5.heap.size w5 (w5.alloc (.cells #[.string T5, .int .i64 39] 43)) := (Below.refl _ _).alloc (Nat.le_refl _) _
  have hb46 := hb5.trans (hb56.mono hb5.size)
  have HK6 := Lib.hid ((step_of_below hb46).blk HK4.out List.not_mem_nil List.not_mem_nil)
  have HKB6 := Lib.hid (blk_new w5 43 #[.string T5, .int .i64 39])
  have HB6 := Lib.hid (HB4.out.trans (hb46.mono HB4.out.size))
  have HPA6 := Lib.hid (HPA4.out.below hb46)
  clear hb5 hb56 hb46 hT5 HK4 HB4 HPA4 HS4
  go_upto_region 3 with fail
  generalize w5.alloc (.cells #[.string T5, .int .i64 39] 43) = w6 at *
  generalize w5.heap.size = g3 at *
  go_wp2_with fail
  refine (HTB.out w6).mono ?_
  rintro e w7 ⟨rfl, hb7⟩
  have HK7 := Lib.hid ((step_of_below hb7).blk HK6.out List.not_mem_nil List.not_mem_nil)
  have HKB7 := Lib.hid ((step_of_below hb7).blk HKB6.out List.not_mem_nil List.not_mem_nil)
  have HB7 := Lib.hid (HB6.out.trans (hb7.mono HB6.out.size))
  have HPA7 := Lib.hid (HPA6.out.below hb7)
  rw [show tablesAns 200 = (3, 0) by decide]
  clear hb7 HK6 HKB6 HB6 HPA6
  go_wp2_with fail
  refine (HLF.out w7).mono ?_
  rintro e w8 ⟨v8, rfl, hp8, hb8⟩
  have HG8 := Lib.hid (HGT.out w8 v8 _ _ ⟨#[96]⟩ 0 hp8 light_lit (by decide) (by omega) (by omega))
  have HK8 := Lib.hid ((step_of_below hb8).blk HK7.out List.not_mem_nil List.not_mem_nil)
  have HKB8 := Lib.hid ((step_of_below hb8).blk HKB7.out List.not_mem_nil List.not_mem_nil)
  have HB8 := Lib.hid (HB7.out.trans (hb8.mono HB7.out.size))
  have HPA8 := Lib.hid (HPA7.out.below hb8)
  clear hb8 hp8 HK7 HKB7 HB7 HPA7
  go_wp2_with fail
  refine HG8.out.mono ?_
  rintro e w9 ⟨v9, rfl, ho9, hb9⟩
  have hg : getG [[1, 2, 2], [1, 2, 2]] [0] (bitsB (⟨#[96]⟩ : ByteArray).data.toList) 0 = ([0, 2], 3, 0) := get_lit
  rw [hg] at ho9 ⊢
  obtain ⟨A9, c9, rfl, _, _, _⟩ := own_slice ho9
  have HI9 := Lib.hid (ints_of_own ho9)
  have hk9 := (step_of_below hb9).blk HK8.out List.not_mem_nil List.not_mem_nil
  have hkb9 := (step_of_below hb9).blk HKB8.out List.not_mem_nil List.not_mem_nil
  have HB9 := Lib.hid (HB8.out.trans (hb9.mono HB8.out.size))
  have HPA9 := Lib.hid (HPA8.out.below hb9).drew
  have q0 : w9.cell? ⟨g1, 0, none⟩ = some (.slice A2 n2 c2) := (blk_cell hk9 0).trans rfl
  have q1 : w9.cell? ⟨g1, 1, none⟩ = some (.slice B2 m2 d2) := (blk_cell hk9 1).trans rfl
  have q2 : w9.cell? ⟨g3, 1, none⟩ = some (.int .i64 39) := (blk_cell hkb9 1).trans rfl
  have l1 := blk_lt hk9
  have l3 := blk_lt hkb9
  clear ho9 hb9 hg HK8 HKB8 HB8 HPA8 HG8 hk9 hkb9
  dsimp only
  go_upto_region 5 with fail
  go_region_held3 (fun w' => w'.cell? ⟨g1, 0, none⟩ = some (.slice A2 n2 c2) ∧ w'.cell? ⟨g1, 1, none⟩ = some (.slice B2 m2 d2) ∧ w'.cell? ⟨g3, 1, none⟩ = some (.int .i64 39))
    (first | exact ⟨q0, q1, q2⟩ | exact ⟨r0, r1, r2⟩ | exact ⟨s0, s1, s2⟩ | exact ⟨t0, t1, t2⟩ | go_keep)
    (first
      | (go_at_call 29; refine (HLF.out _).mono ?_; rintro e w10 ⟨v10, rfl, hp10, hb10⟩
         have r0 : w10.cell? ⟨g1, 0, none⟩ = some (.slice A2 n2 c2) := (hb10.cell (p := ⟨g1, 0, none⟩) l1).trans q0
         have r1 : w10.cell? ⟨g1, 1, none⟩ = some (.slice B2 m2 d2) := (hb10.cell (p := ⟨g1, 1, none⟩) l1).trans q1
         have r2 : w10.cell? ⟨g3, 1, none⟩ = some (.int .i64 39) := (hb10.cell (p := ⟨g3, 1, none⟩) l3).trans q2)
      | (go_at_call 12; refine (rplans_any w10 _ _ _ _ _ _ (HPA9.out.below hb10) hp10).mono ?_; rintro e w11 ⟨rfl, hb11⟩
         have s0 : w11.cell? ⟨g1, 0, none⟩ = some (.slice A2 n2 c2) := (hb11.cell (p := ⟨g1, 0, none⟩) (Nat.lt_of_lt_of_le l1 hb10.size)).trans r0
         have s1 : w11.cell? ⟨g1, 1, none⟩ = some (.slice B2 m2 d2) := (hb11.cell (p := ⟨g1, 1, none⟩) (Nat.lt_of_lt_of_le l1 hb10.size)).trans r1
         have s2 : w11.cell? ⟨g3, 1, none⟩ = some (.int .i64 39) := (hb11.cell (p := ⟨g3, 1, none⟩) (Nat.lt_of_lt_of_le l3 hb10.size)).trans r2)
      | (go_at_call 13
         have hbb : Below w9.heap.size w9 w10 := ((Below.refl _ w9).drew).trans hb10
         have hbl : Below w11.heap.size w11 (w11.alloc (.cells #[.int .i64 0, .int .i64 2] 3)) := (Below.refl _ _).alloc (Nat.le_refl _) _
         refine (ints_same _ A9 _ 2 c9 2 [0, 2] (ints_low (ints_low (ints_low HI9.out hbb) hb11) hbl) (lit_pair w11 0 2) (by omega)).mono ?_
         rintro e w12 ⟨rfl, k12, rfl⟩
         have hb12 : Below w11.heap.size w11 ((w11.alloc (.cells #[.int .i64 0, .int .i64 2] 3)).drewN k12) := below_drewN hbl k12
         have HB12 := Lib.hid (HB9.out.trans ((hbb.trans ((hb11.trans (hb12.mono hb11.size)).mono hbb.size)).mono HB9.out.size))
         have t0 := (hb12.cell (p := ⟨g1, 0, none⟩) (Nat.lt_of_lt_of_le (Nat.lt_of_lt_of_le l1 hb10.size) hb11.size)).trans s0
         have t1 := (hb12.cell (p := ⟨g1, 1, none⟩) (Nat.lt_of_lt_of_le (Nat.lt_of_lt_of_le l1 hb10.size) hb11.size)).trans s1
         have t2 := (hb12.cell (p := ⟨g3, 1, none⟩) (Nat.lt_of_lt_of_le (Nat.lt_of_lt_of_le l3 hb10.size) hb11.size)).trans s2))
  go_wp2_with fail
  go_ret
  exact ⟨rfl, HB12.out⟩
end

end Go.Proofs.YtmgmgmbpldboiaaGreat
namespace Go.Proofs.YtmgmgmbpldboiaaGreat
open Go.RowKit

section
variable (R : GroupsDone)
include R
end

/-- How much a plan holds, by its first tables. -/
def lightS (T : List (List Int)) (P : List Int) (q : Nat) : Nat := P.length + ((T.take q).map List.length).sum
def IsLight (T : List (List Int)) (P : List Int) : Prop := lightS T P (min T.length 10) ≤ 3000 ∧ T.length ≤ 10
instance (T : List (List Int)) (P : List Int) : Decidable (IsLight T P) := inferInstanceAs (Decidable (_ ∧ _))
theorem lightS_next (T : List (List Int)) (P : List Int) (q : Nat) (h : q < T.length) : lightS T P (q + 1) = lightS T P q + (T.getD q []).length := by
  unfold lightS
  rw [List.take_add_one, List.getElem?_eq_getElem h, List.getD_eq_getElem?_getD, List.getElem?_eq_getElem h]
  show P.length + ((T.take q ++ [T[q]]).map List.length).sum = P.length + ((T.take q).map List.length).sum + (T[q]).length
  rw [List.map_append, List.sum_append, List.map_singleton, List.sum_singleton]
  omega
set_option maxRecDepth 100000 in
theorem sum_one : ∀ (l : List Nat) (x : Nat), x ∈ l → x ≤ l.sum
  | [], x, h => absurd h List.not_mem_nil
  | y :: l, x, h => by
    rw [List.sum_cons]
    rcases List.mem_cons.1 h with rfl | h
    · exact Nat.le_add_right _ _
    · have := sum_one l x h
      omega
theorem light_of {T : List (List Int)} {P : List Int} (h : IsLight T P) : LightP T P := by
  obtain ⟨h1, h2⟩ := h
  rw [Nat.min_eq_left h2] at h1
  unfold lightS at h1
  rw [List.take_length] at h1
  refine ⟨h2, by omega, fun t ht => ?_⟩
  have := sum_one (T.map List.length) t.length (List.mem_map.2 ⟨t, ht, rfl⟩)
  omega
/-- Plans of a bulk that no reckoning wraps. -/
def SmallP (T : List (List Int)) (P : List Int) : Prop := T.length ≤ 2000000 ∧ P.length ≤ 2000000 ∧ ∀ t ∈ T, t.length ≤ 2000000
set_option maxRecDepth 100000 in
theorem lightS_le {T : List (List Int)} {P : List Int} (h : SmallP T P) : ∀ q, q ≤ T.length → lightS T P q ≤ 2000000 * (q + 1)
  | 0, _ => by
    have := h.2.1
    simp [lightS]
    omega
  | q + 1, hq => by
    have h1 := lightS_le h q (by omega)
    have h2 := h.2.2 _ (list_at (T := T) (q := q) (by omega))
    rw [lightS_next T P q (by omega)]
    omega

set_option maxHeartbeats 1600000 in
set_option maxRecDepth 100000 in
theorem llight_any (w : World) (v : Value) (T : List (List Int)) (P : List Int) (h : PlanIn w v T P) (hs : SmallP T P) : Calls Tryz.prog 21 #[v] w fun e w' => e = .returned (.bool (decide (IsLight T P))) ∧ Below w.heap.size w w' := by
  obtain ⟨A, n, c, B, m, d, rfl, hT, hnc, hn, hP, hmd, hm⟩ := h
  have hTn := hT.1
  have hPn := hP.1
  obtain ⟨w1, hw1⟩ : ∃ w1, w1 = w.alloc (.cells #[.slice A n c, .slice B m d] 26) := ⟨_, rfl⟩
  have hb1 : Below w.heap.size w w1 := by rw [hw1]; exact (Below.refl _ _).alloc (Nat.le_refl _) _
  have hr1 : Blk w1 w.heap.size 26 #[.slice A n c, .slice B m d] := by rw [hw1]; exact blk_new w _ _
  have q0 : w1.cell? ⟨w.heap.size, 0, none⟩ = some (.slice A n c) := (blk_cell hr1 0).trans rfl
  have q1 : w1.cell? ⟨w.heap.size, 1, none⟩ = some (.slice B m d) := (blk_cell hr1 1).trans rfl
  have HQ0 := Lib.hid q0
  have HQ1 := Lib.hid q1
  have HT := Lib.hid (hT.below hb1)
  have HTN := Lib.hid hTn
  have HSL := Lib.hid (lightS_le hs)
  have HS := Lib.hid hs
  have h0 : lightS T P 0 = m := by simp [lightS, hPn]
  have HH0 := Lib.hid h0
  have hn2 : n ≤ 2000000 := by rw [← hTn]; exact hs.1
  have hm2 : m ≤ 2000000 := by rw [← hPn]; exact hs.2.1
  have HB1 := Lib.hid hb1
  rw [hw1] at q0 q1
  clear hT hP hTn hPn hb1 hr1 hs hnc hmd hn hm h0
  go_enter Tryz.func21, Tryz.ntmps21
  go_wp2_with fail
  rw [← hw1]
  clear hw1 q0 q1
  go_loopw [3, 4] (fun sv iv' wx => ∃ q s : Nat, q ≤ n ∧ q ≤ 10 ∧ iv' = .int .i64 q ∧ sv = .int .i64 s ∧ Hid (s = lightS T P q) ∧ wx = w1) (fun _ iv' _ => n - (intOf iv').toNat)
  case atStart => exact ⟨0, m, Nat.zero_le _, Nat.zero_le _, rfl, rfl, Lib.hid HH0.out.symm, rfl⟩
  case round =>
    obtain ⟨q, s, hqn, hq10, rfl, rfl, hsum, rfl⟩ := hrel
    have q0 := HQ0.out
    have q1 := HQ1.out
    have hsb : s ≤ 22000000 := by
      have h1 := HSL.out q (by rw [HTN.out]; exact hqn)
      have h2 := hsum.out
      omega
    by_cases e : q < n
    · have d0 : decide ((q : Int) < (n : Int)) = true := decide_eq_true (by omega)
      by_cases e2 : q < 10
      · have d1 : decide ((q : Int) < 10) = true := decide_eq_true (by omega)
        obtain ⟨b, off, rfl, hc⟩ := HT.out.2 (by omega)
        obtain ⟨A2, c2, k1, _⟩ := hc q e
        have hlen := HS.out.2.2 _ (list_at (T := T) (q := q) (by rw [HTN.out]; exact e))
        obtain ⟨K, hK⟩ : ∃ K, K = (T.getD q []).length := ⟨_, rfl⟩
        rw [← hK] at k1 hlen
        have HNX : Hid (s + K = lightS T P (q + 1)) := Lib.hid (by rw [lightS_next T P q (by rw [HTN.out]; exact e), ← hsum.out, hK])
        have hqI : (q : Int) < (n : Int) := by omega
        clear hc hK hsum
        go_wp2_with fail
        go_roundw
        case rel => exact ⟨q + 1, s + K, by omega, by omega, by go_num, by go_num, HNX, by first | trivial | rfl⟩
        case measure => simp [intOf]; omega
      · obtain rfl : q = 10 := by omega
        have d1 : decide ((10 : Int) < 10) = false := decide_eq_false (by omega)
        have hno : ¬ IsLight T P := fun h => by
          have := h.2
          rw [HTN.out] at this
          omega
        have hd : decide (IsLight T P) = false := decide_eq_false hno
        have d2 : decide ((n : Int) ≤ 10) = false := decide_eq_false (by omega)
        clear hno hsum
        by_cases es : s ≤ 3000
        · have d3 : decide ((s : Int) ≤ 3000) = true := decide_eq_true (by omega)
          go_wp2_with fail
          go_ret
          exact ⟨by rw [hd]; rfl, HB1.out⟩
        · have d3 : decide ((s : Int) ≤ 3000) = false := decide_eq_false (by omega)
          go_wp2_with fail
          go_ret
          exact ⟨by rw [hd]; rfl, HB1.out⟩
    · obtain rfl : q = n := by omega
      have d0 : decide ((q : Int) < (q : Int)) = false := decide_eq_false (by omega)
      have d2 : decide ((q : Int) ≤ 10) = true := decide_eq_true (by omega)
      have hlig : IsLight T P ↔ s ≤ 3000 := by
        unfold IsLight
        rw [HTN.out, Nat.min_eq_left hq10, ← hsum.out]
        exact ⟨fun h => h.1, fun h => ⟨h, hq10⟩⟩
      have HLIG := Lib.hid hlig
      clear hsum hlig
      by_cases es : s ≤ 3000
      · have d3 : decide ((s : Int) ≤ 3000) = true := decide_eq_true (by omega)
        have hd : decide (IsLight T P) = true := decide_eq_true (HLIG.out.2 es)
        go_wp2_with fail
        go_ret
        exact ⟨by rw [hd]; rfl, HB1.out⟩
      · have d3 : decide ((s : Int) ≤ 3000) = false := decide_eq_false (by omega)
        have hd : decide (IsLight T P) = false := decide_eq_false (fun k => es (HLIG.out.1 k))
        go_wp2_with fail
        go_ret
        exact ⟨by rw [hd]; rfl, HB1.out⟩

theorem guardB : Tryz.prog.eqGuardType Tryz.prog.depth 43 = false := by kernel_rfl
theorem heldB : Tryz.prog.stoodInHeld 43 = false := by kernel_rfl
set_option maxRecDepth 100000 in
theorem fieldsB : Tryz.prog.underlying 43 = some (.struct (Tryz.prog.fieldsOf 43)) := by simp [Program.fieldsOf, Tryz.underlying43]
set_option maxRecDepth 100000 in
/-- Two pieces of one text and one count are equal. -/
theorem bits_eql (T : ByteArray) (n : Int) (w : World) : (binOp .eql 43 (.agg #[.string T, .int .i64 n]) (.agg #[.string T, .int .i64 n])).run Tryz.prog w = .ok (.bool true) w := by
  rw [run_eql_struct, run_equalIn_agg w 9999 43 _ _ fieldsB heldB]
  simp [Program.fieldsOf, Tryz.underlying43, Op.eqFields, part, go_sem]
section
variable (R : GroupsDone)
include R
end

end Go.Proofs.YtmgmgmbpldboiaaGreat
