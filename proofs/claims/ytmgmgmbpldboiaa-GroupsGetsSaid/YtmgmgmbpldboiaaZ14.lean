/- Ma Mb: texts laid together, what is not used left out. -/
import Derived.Test.YtmgmgmbpldboiaaZ13
import Derived.Laws.StructEq
namespace Go.Proofs.Ytmgmgmbpldboiaa
open Go.RowKit

set_option maxRecDepth 100000 in
/-- A plan of two tables of three lengths and one pick, written down. -/
theorem plan_lit (w0 : World) (a b c : Int) (x : Int) (o : Obj) : let z := w0.heap.size
    PlanIn (((((w0.alloc o).alloc (.cells #[.int .i64 a, .int .i64 b, .int .i64 c] 3)).alloc (.cells #[.int .i64 a, .int .i64 b, .int .i64 c] 3)).alloc (.cells #[.slice (some ⟨z + 1, 0, none⟩) 3 3, .slice (some ⟨z + 1 + 1, 0, none⟩) 3 3] 30)).alloc (.cells #[.int .i64 x] 3))
      (.agg #[.slice (some ⟨z + 1 + 1 + 1, 0, none⟩) 2 2, .slice (some ⟨z + 1 + 1 + 1 + 1, 0, none⟩) 1 1]) [[a, b, c], [a, b, c]] [x] ∧
    Below w0.heap.size w0 (((((w0.alloc o).alloc (.cells #[.int .i64 a, .int .i64 b, .int .i64 c] 3)).alloc (.cells #[.int .i64 a, .int .i64 b, .int .i64 c] 3)).alloc (.cells #[.slice (some ⟨z + 1, 0, none⟩) 3 3, .slice (some ⟨z + 1 + 1, 0, none⟩) 3 3] 30)).alloc (.cells #[.int .i64 x] 3)) := by
  intro z
  obtain ⟨w1, hw1⟩ : ∃ w1, w1 = w0.alloc o := ⟨_, rfl⟩
  obtain ⟨w2, hw2⟩ : ∃ w2, w2 = w1.alloc (.cells #[.int .i64 a, .int .i64 b, .int .i64 c] 3) := ⟨_, rfl⟩
  obtain ⟨w3, hw3⟩ : ∃ w3, w3 = w2.alloc (.cells #[.int .i64 a, .int .i64 b, .int .i64 c] 3) := ⟨_, rfl⟩
  obtain ⟨w4, hw4⟩ : ∃ w4, w4 = w3.alloc (.cells #[.slice (some ⟨z + 1, 0, none⟩) 3 3, .slice (some ⟨z + 1 + 1, 0, none⟩) 3 3] 30) := ⟨_, rfl⟩
  obtain ⟨w5, hw5⟩ : ∃ w5, w5 = w4.alloc (.cells #[.int .i64 x] 3) := ⟨_, rfl⟩
  rw [← hw1, ← hw2, ← hw3, ← hw4, ← hw5]
  have s1 : w1.heap.size = z + 1 := by rw [hw1]; simp [z]
  have s2 : w2.heap.size = z + 1 + 1 := by rw [hw2]; simp [s1]
  have s3 : w3.heap.size = z + 1 + 1 + 1 := by rw [hw3]; simp [s2]
  have s4 : w4.heap.size = z + 1 + 1 + 1 + 1 := by rw [hw4]; simp [s3]
  have b1 : Below w0.heap.size w0 w1 := by rw [hw1]; exact (Below.refl _ _).alloc (Nat.le_refl _) _
  have b2 : Below w1.heap.size w1 w2 := by rw [hw2]; exact (Below.refl _ _).alloc (Nat.le_refl _) _
  have b3 : Below w2.heap.size w2 w3 := by rw [hw3]; exact (Below.refl _ _).alloc (Nat.le_refl _) _
  have b4 : Below w3.heap.size w3 w4 := by rw [hw4]; exact (Below.refl _ _).alloc (Nat.le_refl _) _
  have b5 : Below w4.heap.size w4 w5 := by rw [hw5]; exact (Below.refl _ _).alloc (Nat.le_refl _) _
  have k2 : Blk w2 (z + 1) 3 #[.int .i64 a, .int .i64 b, .int .i64 c] := by rw [← s1, hw2]; exact blk_new w1 _ _
  have k3 : Blk w3 (z + 1 + 1) 3 #[.int .i64 a, .int .i64 b, .int .i64 c] := by rw [← s2, hw3]; exact blk_new w2 _ _
  have k4 : Blk w4 (z + 1 + 1 + 1) 30 #[.slice (some ⟨z + 1, 0, none⟩) 3 3, .slice (some ⟨z + 1 + 1, 0, none⟩) 3 3] := by rw [← s3, hw4]; exact blk_new w3 _ _
  have k5 : Blk w5 (z + 1 + 1 + 1 + 1) 3 #[.int .i64 x] := by rw [← s4, hw5]; exact blk_new w4 _ _
  have k25 := (step_of_below b5).blk ((step_of_below b4).blk ((step_of_below b3).blk k2 List.not_mem_nil List.not_mem_nil) List.not_mem_nil List.not_mem_nil) List.not_mem_nil List.not_mem_nil
  have k35 := (step_of_below b5).blk ((step_of_below b4).blk k3 List.not_mem_nil List.not_mem_nil) List.not_mem_nil List.not_mem_nil
  have k45 := (step_of_below b5).blk k4 List.not_mem_nil List.not_mem_nil
  have zin : ∀ g, Blk w5 g 3 #[.int .i64 a, .int .i64 b, .int .i64 c] → ZIn w5 (some ⟨g, 0, none⟩) 3 [a, b, c] := fun g hg => ⟨rfl, fun _ => ⟨g, 0, rfl, fun i hi => by
    rw [Nat.zero_add, blk_cell hg]
    have : i = 0 ∨ i = 1 ∨ i = 2 := by omega
    rcases this with rfl | rfl | rfl <;> rfl⟩⟩
  have h3 : (3 : Nat) ≤ maxLen := by unfold maxLen; omega
  refine ⟨⟨_, 2, 2, _, 1, 1, rfl, ⟨rfl, fun _ => ⟨z + 1 + 1 + 1, 0, rfl, fun i hi => ?_⟩⟩, Nat.le_refl _, by unfold maxLen; omega, ⟨rfl, fun _ => ⟨z + 1 + 1 + 1 + 1, 0, rfl, fun i hi => ?_⟩⟩, Nat.le_refl _, by unfold maxLen; omega⟩, ?_⟩
  · rw [Nat.zero_add, blk_cell k45]
    have : i = 0 ∨ i = 1 := by omega
    rcases this with rfl | rfl
    · exact ⟨_, 3, rfl, zin _ k25, Nat.le_refl _, h3⟩
    · exact ⟨_, 3, rfl, zin _ k35, Nat.le_refl _, h3⟩
  · rw [Nat.zero_add, blk_cell k5]
    have : i = 0 := by omega
    subst this
    rfl
  · exact b1.trans (((((b2.trans (b3.mono b2.size)).trans (b4.mono (Nat.le_trans b2.size b3.size))).trans (b5.mono (Nat.le_trans b2.size (Nat.le_trans b3.size b4.size)))).mono b1.size))

set_option maxHeartbeats 1600000 in
set_option maxRecDepth 100000 in
theorem lflat_any (w : World) : Calls Try.prog 17 #[] w fun e w' => ∃ v, e = .returned v ∧ PlanIn w' v [[1, 2, 2], [1, 2, 2]] [0] ∧ Below w.heap.size w w' := by
  have H := Lib.hid fun (o : Obj) => plan_lit w 1 2 2 0 o
  go_enter Try.func17, Try.ntmps17
  go_wp2_with fail
  have h := H.out (.cells #[.slice (some ⟨w.heap.size + 1 + 1 + 1, 0, none⟩) 2 2, .slice (some ⟨w.heap.size + 1 + 1 + 1 + 1, 0, none⟩) 1 1] 32)
  refine bodyPost_ret (v := .agg #[.slice (some ⟨w.heap.size + 1 + 1 + 1, 0, none⟩) 2 2, .slice (some ⟨w.heap.size + 1 + 1 + 1 + 1, 0, none⟩) 1 1]) ?_ rfl ⟨_, rfl, h.1, h.2⟩
  simp [results, Try.results17, go_sem]

end Go.Proofs.Ytmgmgmbpldboiaa
namespace Go.Proofs.Ytmgmgmbpldboiaa
open Go.RowKit

/-- Plans that are light. -/
def LightP (T : List (List Int)) (P : List Int) : Prop := T.length ≤ 10 ∧ P.length ≤ 3000 ∧ ∀ t ∈ T, t.length ≤ 3000
/-- What is asked of the code's functions: lists of at most 3001 symbols, texts of at most 40000 bytes, light plans. -/
structure GroupsDone : Prop where
  tables : ∀ (w : World) (m : Int), -9223372036854775808 ≤ m → m ≤ 9223372036854775807 → Calls Try.prog 6 #[.int .i64 m] w fun e w' => e = .returned (.tuple #[.int .i64 (tablesAns m).1, .int .i64 (tablesAns m).2]) ∧ Below w.heap.size w w'
  flat : ∀ (w : World) (A : Option Addr) (n c : Nat) (L : List Int) (m : Int), ZIn w A n L → n ≤ c → n ≤ 3001 → -9223372036854775808 ≤ m → m ≤ 9223372036854775807 → Calls Try.prog 16 #[.slice A n c, .int .i64 m] w (PlanPost w (flatAns L m))
  shows : ∀ (w : World) (v : Value) (T : List (List Int)) (P : List Int), PlanIn w v T P → LightP T P → Calls Try.prog 10 #[v] w (BitsPost w (bitsG T P))
  gets : ∀ (w : World) (v : Value) (T : List (List Int)) (P : List Int) (s : ByteArray) (at' : Int), PlanIn w v T P → LightP T P → s.size ≤ 40000 → -9223372036854775808 ≤ at' → at' ≤ 9223372036854775807 → Calls Try.prog 12 #[v, .string s, .int .i64 at'] w (AllPost w (getG T P (bitsB s.data.toList) at'))

theorem flat_three : flatAns [0, 1, 2] 3 = ([[1, 2, 2], [1, 2, 2]], [0], 0) := by decide +kernel
theorem bits_lit : (bitsG [[1, 2, 2], [1, 2, 2]] [0]).1.length = 39 ∧ (bitsG [[1, 2, 2], [1, 2, 2]] [0]).2 = 0 := by decide +kernel
theorem get_lit : getG [[1, 2, 2], [1, 2, 2]] [0] (bitsB [96]) 0 = ([0, 2], 3, 0) := by decide +kernel
set_option maxRecDepth 100000 in
theorem light_lit : LightP [[1, 2, 2], [1, 2, 2]] [0] := by
  refine ⟨by decide, by decide, fun t ht => ?_⟩
  rcases List.mem_cons.1 ht with h | h
  · rw [h]
    decide
  · rw [List.mem_singleton.1 h]
    decide
theorem PlanIn.drew {w : World} {v : Value} {T : List (List Int)} {P : List Int} (h : PlanIn w v T P) : PlanIn w.drew v T P := h.below ((Below.refl _ _).drew)
theorem PlanIn.parts {w : World} {v : Value} {T : List (List Int)} {P : List Int} (h : PlanIn w v T P) : ∃ A n c B m d, v = .agg #[.slice A n c, .slice B m d] ∧ PlanIn w (.agg #[.slice A n c, .slice B m d]) T P := by
  obtain ⟨A, n, c, B, m, d, hv, hr⟩ := id h
  exact ⟨A, n, c, B, m, d, hv, by rw [← hv]; exact h⟩
set_option maxRecDepth 100000 in
theorem lit_pair (w : World) (x y : Nat) : IntsIn (w.alloc (.cells #[.int .i64 x, .int .i64 y] 3)) (some ⟨w.heap.size, 0, none⟩) 2 [x, y] := by
  refine ⟨rfl, fun _ => ⟨w.heap.size, 0, rfl, fun i hi => ?_⟩⟩
  rw [Nat.zero_add, blk_cell (blk_new w 3 _)]
  have : i = 0 ∨ i = 1 := by omega
  rcases this with rfl | rfl <;> rfl

section
variable (R : GroupsDone)
include R
set_option maxHeartbeats 3200000 in
set_option maxRecDepth 100000 in
theorem awake_any (w : World) : Calls Try.prog 8 #[] w fun e w' => e = .returned (.bool true) ∧ Below w.heap.size w w' := by
  obtain ⟨w1, hw1⟩ : ∃ w1, w1 = w.alloc (.cells #[.int .i64 0, .int .i64 1, .int .i64 2] 3) := ⟨_, rfl⟩
  have hb1 : Below w.heap.size w w1 := by rw [hw1]; exact (Below.refl _ _).alloc (Nat.le_refl _) _
  have hz1 : ZIn w1 (some ⟨w.heap.size, 0, none⟩) 3 [0, 1, 2] := by rw [hw1]; exact zin_lit w [0, 1, 2]
  have HFL := Lib.hid (R.flat w1 _ 3 3 [0, 1, 2] 3 hz1 (Nat.le_refl _) (by omega) (by omega) (by omega))
  rw [flat_three] at HFL
  have HLF := Lib.hid lflat_any
  have HSH := Lib.hid R.shows
  have HGT := Lib.hid R.gets
  have HTB := Lib.hid (fun wx => R.tables wx 200 (by omega) (by omega))
  have HB1 := Lib.hid hb1
  clear hb1 hz1 R
  go_enter Try.func8, Try.ntmps8
  go_wp2_with fail
  rw [← hw1]
  clear hw1
  refine HFL.out.mono ?_
  rintro e w2 ⟨v2, rfl, hp2, hb2⟩
  obtain ⟨A2, n2, c2, B2, m2, d2, rfl, hpl2⟩ := hp2.parts
  have hb23 : Below w2.heap.size w2 (w2.alloc (.cells #[.slice A2 n2 c2, .slice B2 m2 d2] 32)) := (Below.refl _ _).alloc (Nat.le_refl _) _
  have HK3 := Lib.hid (blk_new w2 32 #[.slice A2 n2 c2, .slice B2 m2 d2])
  have HB3 := Lib.hid (HB1.out.trans ((hb2.trans (hb23.mono hb2.size)).mono HB1.out.size))
  have HPA := Lib.hid (hpl2.below hb23)
  clear hb2 hb23 hp2 hpl2 HFL
  go_upto_region 2 with fail
  generalize w2.alloc (.cells #[.slice A2 n2 c2, .slice B2 m2 d2] 32) = w3 at *
  generalize w2.heap.size = g1 at *
  go_wp2_with fail
  refine (HLF.out w3).mono ?_
  rintro e w4 ⟨v4, rfl, hp4, hb4⟩
  have HS4 := Lib.hid (HSH.out w4 v4 _ _ hp4 light_lit)
  have HK4 := Lib.hid ((step_of_below hb4).blk HK3.out List.not_mem_nil List.not_mem_nil)
  have HB4 := Lib.hid (HB3.out.trans (hb4.mono HB3.out.size))
  have HPA4 := Lib.hid (HPA.out.below hb4)
  clear hb4 hp4 HK3 HB3 HPA
  go_wp2_with fail
  refine HS4.out.mono ?_
  rintro e w5 ⟨rfl, hb5⟩
  rw [bits_lit.1, bits_lit.2]
  obtain ⟨T5, hT5⟩ : ∃ T5, T5 = (⟨(pack (bitsG [[1, 2, 2], [1, 2, 2]] [0]).1).toArray⟩ : ByteArray) := ⟨_, rfl⟩
  rw [← hT5]
  have hb56 : Below w5.heap.size w5 (w5.alloc (.cells #[.string T5, .int .i64 39] 35)) := (Below.refl _ _).alloc (Nat.le_refl _) _
  have hb46 := hb5.trans (hb56.mono hb5.size)
  have HK6 := Lib.hid ((step_of_below hb46).blk HK4.out List.not_mem_nil List.not_mem_nil)
  have HKB6 := Lib.hid (blk_new w5 35 #[.string T5, .int .i64 39])
  have HB6 := Lib.hid (HB4.out.trans (hb46.mono HB4.out.size))
  have HPA6 := Lib.hid (HPA4.out.below hb46)
  clear hb5 hb56 hb46 hT5 HK4 HB4 HPA4 HS4
  go_upto_region 3 with fail
  generalize w5.alloc (.cells #[.string T5, .int .i64 39] 35) = w6 at *
  generalize w5.heap.size = g3 at *
  go_wp2_with fail
  refine (HTB.out w6).mono ?_
  rintro e w7 ⟨rfl, hb7⟩
  have HK7 := Lib.hid ((step_of_below hb7).blk HK6.out List.not_mem_nil List.not_mem_nil)
  have HKB7 := Lib.hid ((step_of_below hb7).blk HKB6.out List.not_mem_nil List.not_mem_nil)
  have HB7 := Lib.hid (HB6.out.trans (hb7.mono HB6.out.size))
  have HPA7 := Lib.hid (HPA6.out.below hb7)
  rw [show tablesAns 200 = (3, 0) by decide]
  clear hb7 HK6 HKB6 HB6 HPA6
  go_wp2_with fail
  refine (HLF.out w7).mono ?_
  rintro e w8 ⟨v8, rfl, hp8, hb8⟩
  have HG8 := Lib.hid (HGT.out w8 v8 _ _ ⟨#[96]⟩ 0 hp8 light_lit (by decide) (by omega) (by omega))
  have HK8 := Lib.hid ((step_of_below hb8).blk HK7.out List.not_mem_nil List.not_mem_nil)
  have HKB8 := Lib.hid ((step_of_below hb8).blk HKB7.out List.not_mem_nil List.not_mem_nil)
  have HB8 := Lib.hid (HB7.out.trans (hb8.mono HB7.out.size))
  have HPA8 := Lib.hid (HPA7.out.below hb8)
  clear hb8 hp8 HK7 HKB7 HB7 HPA7
  go_wp2_with fail
  refine HG8.out.mono ?_
  rintro e w9 ⟨v9, rfl, ho9, hb9⟩
  have hg : getG [[1, 2, 2], [1, 2, 2]] [0] (bitsB (⟨#[96]⟩ : ByteArray).data.toList) 0 = ([0, 2], 3, 0) := get_lit
  rw [hg] at ho9 ⊢
  obtain ⟨A9, c9, rfl, _, _, _⟩ := own_slice ho9
  have HI9 := Lib.hid (ints_of_own ho9)
  have hk9 := (step_of_below hb9).blk HK8.out List.not_mem_nil List.not_mem_nil
  have hkb9 := (step_of_below hb9).blk HKB8.out List.not_mem_nil List.not_mem_nil
  have HB9 := Lib.hid (HB8.out.trans (hb9.mono HB8.out.size))
  have HPA9 := Lib.hid (HPA8.out.below hb9).drew
  have q0 : w9.cell? ⟨g1, 0, none⟩ = some (.slice A2 n2 c2) := (blk_cell hk9 0).trans rfl
  have q1 : w9.cell? ⟨g1, 1, none⟩ = some (.slice B2 m2 d2) := (blk_cell hk9 1).trans rfl
  have q2 : w9.cell? ⟨g3, 1, none⟩ = some (.int .i64 39) := (blk_cell hkb9 1).trans rfl
  have l1 := blk_lt hk9
  have l3 := blk_lt hkb9
  clear ho9 hb9 hg HK8 HKB8 HB8 HPA8 HG8 hk9 hkb9
  dsimp only
  go_upto_region 5 with fail
  go_region_held3 (fun w' => w'.cell? ⟨g1, 0, none⟩ = some (.slice A2 n2 c2) ∧ w'.cell? ⟨g1, 1, none⟩ = some (.slice B2 m2 d2) ∧ w'.cell? ⟨g3, 1, none⟩ = some (.int .i64 39))
    (first | exact ⟨q0, q1, q2⟩ | exact ⟨r0, r1, r2⟩ | exact ⟨s0, s1, s2⟩ | exact ⟨t0, t1, t2⟩ | go_keep)
    (first
      | (go_at_call 17; refine (HLF.out _).mono ?_; rintro e w10 ⟨v10, rfl, hp10, hb10⟩
         have r0 : w10.cell? ⟨g1, 0, none⟩ = some (.slice A2 n2 c2) := (hb10.cell (p := ⟨g1, 0, none⟩) l1).trans q0
         have r1 : w10.cell? ⟨g1, 1, none⟩ = some (.slice B2 m2 d2) := (hb10.cell (p := ⟨g1, 1, none⟩) l1).trans q1
         have r2 : w10.cell? ⟨g3, 1, none⟩ = some (.int .i64 39) := (hb10.cell (p := ⟨g3, 1, none⟩) l3).trans q2)
      | (go_at_call 18; refine (rplans_any w10 _ _ _ _ _ _ (HPA9.out.below hb10) hp10).mono ?_; rintro e w11 ⟨rfl, hb11⟩
         have s0 : w11.cell? ⟨g1, 0, none⟩ = some (.slice A2 n2 c2) := (hb11.cell (p := ⟨g1, 0, none⟩) (Nat.lt_of_lt_of_le l1 hb10.size)).trans r0
         have s1 : w11.cell? ⟨g1, 1, none⟩ = some (.slice B2 m2 d2) := (hb11.cell (p := ⟨g1, 1, none⟩) (Nat.lt_of_lt_of_le l1 hb10.size)).trans r1
         have s2 : w11.cell? ⟨g3, 1, none⟩ = some (.int .i64 39) := (hb11.cell (p := ⟨g3, 1, none⟩) (Nat.lt_of_lt_of_le l3 hb10.size)).trans r2)
      | (go_at_call 15
         have hbb : Below w9.heap.size w9 w10 := ((Below.refl _ w9).drew).trans hb10
         have hbl : Below w11.heap.size w11 (w11.alloc (.cells #[.int .i64 0, .int .i64 2] 3)) := (Below.refl _ _).alloc (Nat.le_refl _) _
         refine (ints_same _ A9 _ 2 c9 2 [0, 2] (ints_low (ints_low (ints_low HI9.out hbb) hb11) hbl) (lit_pair w11 0 2) (by omega)).mono ?_
         rintro e w12 ⟨rfl, k12, rfl⟩
         have hb12 : Below w11.heap.size w11 ((w11.alloc (.cells #[.int .i64 0, .int .i64 2] 3)).drewN k12) := below_drewN hbl k12
         have HB12 := Lib.hid (HB9.out.trans ((hbb.trans ((hb11.trans (hb12.mono hb11.size)).mono hbb.size)).mono HB9.out.size))
         have t0 := (hb12.cell (p := ⟨g1, 0, none⟩) (Nat.lt_of_lt_of_le (Nat.lt_of_lt_of_le l1 hb10.size) hb11.size)).trans s0
         have t1 := (hb12.cell (p := ⟨g1, 1, none⟩) (Nat.lt_of_lt_of_le (Nat.lt_of_lt_of_le l1 hb10.size) hb11.size)).trans s1
         have t2 := (hb12.cell (p := ⟨g3, 1, none⟩) (Nat.lt_of_lt_of_le (Nat.lt_of_lt_of_le l3 hb10.size) hb11.size)).trans s2))
  go_wp2_with fail
  go_ret
  exact ⟨rfl, HB12.out⟩
end

end Go.Proofs.Ytmgmgmbpldboiaa
