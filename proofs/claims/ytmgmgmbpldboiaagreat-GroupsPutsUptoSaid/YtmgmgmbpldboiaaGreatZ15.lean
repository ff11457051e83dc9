/- Uo Up: texts laid together, what is not used left out. -/
import Derived.Test.YtmgmgmbpldboiaaGreatZ14
namespace Go.Proofs.YtmgmgmbpldboiaaGreat
open Go.RowKit

/-- What place answers. -/
def plAns (a : Nat) : Pl → Nat × Nat × Nat
  | .hit n => (n, a + n + 1, 0)
  | .short => (0, 0, 10)
  | .bad => (0, 0, 110)
set_option maxRecDepth 100000 in
theorem hit_lt : ∀ (l : List Nat) (n T k : Nat), placeL l n T = .hit k → n < T → n ≤ k ∧ k < n + l.length ∧ k < T
  | [], n, T, k, h, _ => by simp [placeL] at h
  | b :: l, n, T, k, h, hn => by
    rw [placeL] at h
    by_cases e : b = 0
    · rw [if_pos e] at h
      have := Pl.hit.inj h
      rw [List.length_cons]
      omega
    · rw [if_neg e] at h
      by_cases e2 : n + 1 = T
      · rw [if_pos e2] at h
        cases h
      · rw [if_neg e2] at h
        have := hit_lt l (n + 1) T k h (by omega)
        rw [List.length_cons]
        omega

set_option maxHeartbeats 1600000 in
set_option maxRecDepth 100000 in
theorem rplace_any (w : World) (A : Option Addr) (m c : Nat) (bits : List Nat) (a0 T : Nat) (hb : IntsIn w A m bits) (hm : m ≤ 1000000) (ha : a0 ≤ m) (_ : T ≤ 6) :
    Calls Tryz.prog 94 #[.slice A m c, .int .i64 a0, .int .i64 T] w fun e w' => e = .returned (.tuple #[.int .i64 (plAns a0 (placeL (bits.drop a0) 0 T)).1, .int .i64 (plAns a0 (placeL (bits.drop a0) 0 T)).2.1, .int .i64 (plAns a0 (placeL (bits.drop a0) 0 T)).2.2]) ∧ w' = w := by
  have HB := Lib.hid hb
  have HLM := Lib.hid hb.1
  obtain ⟨R, hR⟩ : ∃ R, R = placeL (bits.drop a0) 0 T := ⟨_, rfl⟩
  rw [← hR]
  have HR := Lib.hid hR
  clear hb hR
  go_enter Tryz.func94, Tryz.ntmps94
  go_wp2_with fail
  go_loopw [9] (fun nv wx => ∃ j : Nat, a0 + j ≤ m ∧ nv = .int .i64 j ∧ Hid (R = placeL (bits.drop (a0 + j)) j T) ∧ w = wx) (fun nv _ => m - (intOf nv).toNat)
  case atStart => exact ⟨0, by omega, rfl, Lib.hid HR.out, rfl⟩
  case round =>
    obtain ⟨j, hj, rfl, hv, rfl⟩ := hrel
    obtain ⟨z, hz⟩ : ∃ z, z = a0 + j := ⟨_, rfl⟩
    have hzz : (a0 : Int) + (j : Int) = (z : Int) := by omega
    have hvv := hv.out
    rw [← hz] at hvv
    by_cases e : z < m
    · have d0 : decide ((z : Int) < (m : Int)) = true := decide_eq_true (by omega)
      have hzI : (0 : Int) ≤ (z : Int) := by omega
      have hzm : (z : Int) < (m : Int) := by omega
      obtain ⟨b, off, rfl, hc⟩ := HB.out.2 (by omega)
      have hcx := hc z e
      rw [drop_nat (L := bits) (p := z) (by rw [HLM.out]; exact e), placeL] at hvv
      obtain ⟨x, hx⟩ : ∃ x, x = bits.getD z 0 := ⟨_, rfl⟩
      rw [← hx] at hcx hvv
      have HZ := Lib.hid hz
      clear hc hx hv HR hz
      by_cases e0 : x = 0
      · have d1 : ((x : Int) == 0) = true := by rw [e0]; rfl
        rw [if_pos e0] at hvv
        subst hvv
        have hans : plAns a0 (.hit j) = (j, z + 1, 0) := by rw [HZ.out]; rfl
        have HANS := Lib.hid hans
        clear e0 hans
        go_wp2_with fail
        go_ret3
        exact ⟨by rw [HANS.out]; rfl, rfl⟩
      · have d1 : ((x : Int) == 0) = false := by rw [beq_eq_false_iff_ne]; omega
        rw [if_neg e0] at hvv
        by_cases e1 : j + 1 = T
        · have d2 : ((j : Int) + 1 == (T : Int)) = true := by rw [beq_iff_eq]; omega
          rw [if_pos e1] at hvv
          subst hvv
          clear e0 e1
          go_wp2_with fail
          go_ret3
          exact ⟨rfl, rfl⟩
        · have d2 : ((j : Int) + 1 == (T : Int)) = false := by rw [beq_eq_false_iff_ne]; omega
          rw [if_neg e1] at hvv
          have HV := Lib.hid hvv
          clear e0 e1 hvv
          go_wp2_with fail
          go_roundw
          case rel => exact ⟨j + 1, by have := HZ.out; omega, by go_num, Lib.hid (by rw [HV.out, HZ.out]; rfl), trivial⟩
          case measure => simp [intOf]; omega
    · have d0 : decide ((z : Int) < (m : Int)) = false := decide_eq_false (by omega)
      rw [List.drop_of_length_le (by rw [HLM.out]; omega), placeL] at hvv
      subst hvv
      clear hv HR hz
      go_wp2_with fail
      go_ret3
      exact ⟨rfl, rfl⟩

theorem takePicks_hit {bits : List Nat} {T k n p : Nat} {o out : List Nat} (h : placeL (bits.drop p) 0 T = .hit n) : takePicks bits T (k + 1) o p out = takePicks bits T k (moveF o n) (p + n + 1) (out ++ [o.getD n 0]) := by
  rw [takePicks, h]
theorem takePicks_short {bits : List Nat} {T k p : Nat} {o out : List Nat} (h : placeL (bits.drop p) 0 T = .short) : takePicks bits T (k + 1) o p out = ([], 0, 10) := by
  rw [takePicks, h]
theorem takePicks_bad {bits : List Nat} {T k p : Nat} {o out : List Nat} (h : placeL (bits.drop p) 0 T = .bad) : takePicks bits T (k + 1) o p out = ([], 0, 110) := by
  rw [takePicks, h]

set_option maxHeartbeats 3200000 in
set_option maxRecDepth 100000 in
theorem rpicked_any (w : World) (A : Option Addr) (m c : Nat) (bits : List Nat) (a0 T many : Nat) (hb : IntsIn w A m bits) (hm : m ≤ 1000000) (ha : a0 ≤ m) (hT1 : 1 ≤ T) (hT : T ≤ 6) (hmany : many ≤ 40000) :
    Calls Tryz.prog 55 #[.slice A m c, .int .i64 a0, .int .i64 T, .int .i64 many] w (AllPost w (takePicks bits T many [0, 1, 2, 3, 4, 5] a0 [])) := by
  have HIN := Lib.hid fun (wx : World) (h : Below w.heap.size w wx) => ints_low hb h
  have HLM := Lib.hid hb.1
  obtain ⟨R, hR⟩ : ∃ R, R = takePicks bits T many [0, 1, 2, 3, 4, 5] a0 [] := ⟨_, rfl⟩
  rw [← hR]
  have HR := Lib.hid hR
  have HPO : Hid (∀ v (a : List Nat × Nat × Nat) w', R = a → w'.ownsRow w.heap.size 3 1 v a.1.length (a.1.map iv) → Below w.heap.size w w' → AllPost w R (.returned (.tuple #[v, .int .i64 a.2.1, .int .i64 a.2.2])) w') := Lib.hid fun v a w' h h1 h2 => by
    rw [h]
    exact ⟨v, rfl, h1, h2⟩
  have hoo : OutOrd w (w.alloc (.cells #[.int .i64 0, .int .i64 1, .int .i64 2, .int .i64 3, .int .i64 4, .int .i64 5] 3)) (.slice none 0 0) [] w.heap.size 6 [0, 1, 2, 3, 4, 5] :=
    ⟨World.ownsRow_nil _ _ _ _, order_row w _ (Nat.le_refl _), (fun e => by cases e), (Below.refl _ _).alloc (Nat.le_refl _) _⟩
  have HOO := Lib.hid hoo
  generalize AllPost w R = PO at *
  clear hb hR hoo
  go_enter Tryz.func55, Tryz.ntmps55
  go_wp2_with fail
  generalize w.alloc (.cells #[.int .i64 0, .int .i64 1, .int .i64 2, .int .i64 3, .int .i64 4, .int .i64 5] 3) = w1 at *
  go_loopw [1, 11, 12, 13, 14, 15, 16] (fun av rv ov iv' s14 s15 s16 wx => ∃ (q p : Nat) (X o : List Nat) (g c : Nat), q ≤ many ∧ iv' = .int .i64 q ∧ av = .int .i64 p ∧ p ≤ m ∧ rv = .slice (some ⟨g, 0, none⟩) 6 c ∧ OutOrd w wx ov X g c o ∧ Hid (R = takePicks bits T (many - q) o p X) ∧ X.length ≤ q) (fun _ _ _ iv' _ _ _ _ => many - (intOf iv').toNat)
  case atStart => exact ⟨0, a0, [], _, _, _, Nat.zero_le _, rfl, rfl, ha, rfl, HOO.out, Lib.hid HR.out, Nat.le_refl _⟩
  case round =>
    clear HOO HR
    obtain ⟨q, p, X, o, g, c2, hq, rfl, rfl, hp, rfl, hoo, hX, hXl⟩ := hrel
    have HOO := Lib.hid hoo
    obtain ⟨A7, c7, rfl, _, _, _⟩ := own_slice hoo.out
    obtain ⟨N, hN⟩ : ∃ N, N = X.length := ⟨_, rfl⟩
    have HN := Lib.hid hN
    rw [← hN] at HOO hXl ⊢
    by_cases e : q < many
    · have d0 : decide ((q : Int) < (many : Int)) = true := decide_eq_true (by omega)
      obtain ⟨k1, hk1⟩ : ∃ k1, k1 = many - (q + 1) := ⟨_, rfl⟩
      have hXX := hX.out
      rw [show many - q = k1 + 1 by omega] at hXX
      have HPL := Lib.hid (rplace_any wr A m c bits p T (HIN.out _ hoo.below) hm hp hT)
      obtain ⟨Y, hY⟩ : ∃ Y, Y = placeL (bits.drop p) 0 T := ⟨_, rfl⟩
      rw [← hY] at HPL
      have HK1 := Lib.hid hk1
      clear hX hk1 hN
      cases Y with
      | short =>
        rw [takePicks_short hY.symm] at hXX
        have HPE := Lib.hid (HPO.out (.slice none 0 0) _ wr hXX (World.ownsRow_nil _ _ _ _) hoo.below)
        clear hXX hY hoo HOO
        go_wp2_with fail
        refine HPL.out.mono ?_
        rintro e w5 ⟨rfl, rfl⟩
        dsimp only [plAns]
        go_wp2_with fail
        first | exact HPE.out | (go_ret3; exact HPE.out)
      | bad =>
        rw [takePicks_bad hY.symm] at hXX
        have HPE := Lib.hid (HPO.out (.slice none 0 0) _ wr hXX (World.ownsRow_nil _ _ _ _) hoo.below)
        clear hXX hY hoo HOO
        go_wp2_with fail
        refine HPL.out.mono ?_
        rintro e w5 ⟨rfl, rfl⟩
        dsimp only [plAns]
        go_wp2_with fail
        first | exact HPE.out | (go_ret3; exact HPE.out)
      | hit k =>
        rw [takePicks_hit hY.symm] at hXX
        have hkk := hit_lt _ _ _ _ hY.symm (by omega)
        rw [List.length_drop, HLM.out] at hkk
        have hk6 : k < 6 := by omega
        have hpk : p + k + 1 ≤ m := by omega
        have HXX := Lib.hid hXX
        have qo := hoo.cell k hk6
        obtain ⟨y, hy⟩ : ∃ y, y = o.getD k 0 := ⟨_, rfl⟩
        rw [← hy] at qo HXX
        have hkI : (0 : Int) ≤ (k : Int) := by omega
        have hk6I : (k : Int) < 6 := by omega
        obtain ⟨A9, c9, w9, hr9, hoo9⟩ := HOO.out.push y HN.out.symm (by omega)
        have HOO9 := Lib.hid hoo9
        have HR9 := Lib.hid hr9
        have HTU := Lib.hid (rturned_any w9 (some ⟨g, 0, none⟩) 6 c2 o k (ints_of_own hoo9.ord) (by omega) hk6)
        clear hXX hY hy hoo hr9 hoo9 hkk
        go_wp2_with fail
        refine HPL.out.mono ?_
        rintro e w5 ⟨rfl, rfl⟩
        dsimp only [plAns]
        obtain ⟨z, hz⟩ : ∃ z, z = p + k + 1 := ⟨_, rfl⟩
        have hzz : (p : Int) + (k : Int) + 1 = (z : Int) := by omega
        rw [← hz] at HXX hpk ⊢
        clear hz
        go_wp2_with (at_builtin; refine Lib.wpList_append_run _ rfl (.tmp 34) (.tmp 39) 22 22 rfl (.slice A7 N c7) (.slice (some ⟨w5.heap.size, 0, none⟩) 1 1) rfl rfl _ _ HR9.out ?_)
        refine HTU.out.mono ?_
        rintro e w10 ⟨v10, rfl, ho10, hb10⟩
        obtain ⟨g10, c10, rfl, hoo10⟩ := HOO9.out.turn hb10 ho10
        have HOO10 := Lib.hid hoo10
        clear ho10 hb10 hoo10
        go_wp2_with fail
        go_roundw
        case rel =>
          refine ⟨q + 1, z, X ++ [y], moveF o k, g10, c10, by omega, by go_num, rfl, hpk, rfl, HOO10.out, ?_, ?_⟩
          · rw [← HK1.out]
            exact HXX
          · rw [List.length_append, ← HN.out]
            show N + 1 ≤ _
            omega
        case measure => simp [intOf]; omega
    · obtain rfl : q = many := by omega
      have d0 : decide ((q : Int) < (q : Int)) = false := decide_eq_false (by omega)
      have hXX := hX.out
      rw [Nat.sub_self, takePicks] at hXX
      have HPE := Lib.hid (HPO.out (.slice A7 N c7) _ wr hXX (by show wr.ownsRow w.heap.size 3 1 (.slice A7 N c7) X.length (X.map iv); exact HOO.out.out) hoo.below)
      clear hX hXX hN hoo HOO
      go_wp2_with fail
      first | exact HPE.out | (go_ret3; exact HPE.out)
end Go.Proofs.YtmgmgmbpldboiaaGreat
namespace Go.Proofs.YtmgmgmbpldboiaaGreat
open Go.RowKit

set_option maxRecDepth 100000 in
theorem infoTT : (Tryz.prog.info? 24).map (fun i => (i.zero, i.size, i.bytes)) = some (some (.slice none 0 0), 1, 24) := by kernel_rfl
set_option maxRecDepth 100000 in
theorem kinds_apart {w : World} {B B' k k' n n' : Nat} {e e' : TypeId} {v v' : Value} {xs xs' : List Value} (h : w.ownsRow B e k v n xs) (h' : w.ownsRow B' e' k' v' n' xs') (he : e ≠ e') : v.ownBlock = none ∨ v.ownBlock ≠ v'.ownBlock := by
  cases hv : v.ownBlock with
  | none => exact .inl rfl
  | some b =>
    refine .inr fun hb => ?_
    obtain ⟨c1, f1, e1⟩ := Lib.ownsRow_kind h b hv
    obtain ⟨c2, f2, e2⟩ := Lib.ownsRow_kind h' b hb.symm
    rw [e2] at e1
    simp at e1
    exact he e1.2.1.symm
theorem TabW.mono {w : World} {B B' g n : Nat} {C : Nat → List Nat} (h : TabW w B g n C) (hB : B' ≤ B) : TabW w B' g n C := by
  obtain ⟨F, h1, h2⟩ := h
  refine ⟨F, World.ownsRow.mono h1 hB, fun j hj => ?_⟩
  obtain ⟨A, k, a, b, c⟩ := h2 j hj
  exact ⟨A, k, a, b, World.ownsRow.mono c hB⟩
theorem TabW.low_kept {w w2 : World} {B g n : Nat} {C : Nat → List Nat} (h : TabW w B g n C) (hb : Below w.heap.size w w2) : TabW w2 B g n C := by
  obtain ⟨F, h1, h2⟩ := h
  refine ⟨F, row_low h1 hb, fun j hj => ?_⟩
  obtain ⟨A, k, a, b, c⟩ := h2 j hj
  exact ⟨A, k, a, b, row_low c hb⟩
theorem TabW.grown_row {w w2 : World} {B B' g n m : Nat} {C : Nat → List Nat} {v : Value} {xs : List Value} (h : TabW w B g n C) (hv : w.ownsRow B' 24 1 v m xs) (hg : w.grownBy w2 v.ownBlock) : TabW w2 B g n C := by
  obtain ⟨F, h1, h2⟩ := h
  refine ⟨F, World.ownsRow.kept h1 hg (kinds_apart h1 hv (by decide)), fun j hj => ?_⟩
  obtain ⟨A, k, a, b, c⟩ := h2 j hj
  exact ⟨A, k, a, b, World.ownsRow.kept c hg (kinds_apart c hv (by decide))⟩
theorem TabW.alloc' {w : World} {B g n : Nat} {C : Nat → List Nat} (h : TabW w B g n C) (o : Obj) : TabW (w.alloc o) B g n C := by
  obtain ⟨F, h1, h2⟩ := h
  refine ⟨F, h1.alloc _, fun j hj => ?_⟩
  obtain ⟨A, k, a, b, c⟩ := h2 j hj
  exact ⟨A, k, a, b, c.alloc _⟩

/-- Tables of one's own in a slice of one's own. -/
structure Tabs (w0 w : World) (v : Value) (q n : Nat) (G : Nat → Nat) (C : Nat → Nat → List Nat) : Prop where
  row : w.ownsRow w0.heap.size 24 1 v q ((List.range q).map fun t => .slice (some ⟨G t, 0, none⟩) n n)
  tab : ∀ t, t < q → TabW w w0.heap.size (G t) n (C t)
  below : Below w0.heap.size w0 w
theorem Tabs.nil (w0 w : World) (n : Nat) (G : Nat → Nat) (C : Nat → Nat → List Nat) (h : Below w0.heap.size w0 w) : Tabs w0 w (.slice none 0 0) 0 n G C :=
  ⟨World.ownsRow_nil _ _ _ _, fun _ ht => absurd ht (Nat.not_lt_zero _), h⟩
set_option maxRecDepth 100000 in
/-- One more table. -/
theorem Tabs.push {w0 w w1 : World} {A : Option Addr} {q cap n : Nat} {G : Nat → Nat} {C : Nat → Nat → List Nat} (h : Tabs w0 w (.slice A q cap) q n G C) {g : Nat} {D : Nat → List Nat} (ht : TabW w1 w.heap.size g n D) (hb : Below w.heap.size w w1) (hq : q ≤ 1000) (hD : C q = D) :
    ∃ A2 cap2 w2, (Builtin.append_ #[137, 137] 137 #[.slice A q cap, .slice (some ⟨w1.heap.size, 0, none⟩) 1 1]).run Tryz.prog (w1.alloc (.cells #[.slice (some ⟨g, 0, none⟩) n n] 24)) = .ok (.slice A2 (q + 1) cap2) w2 ∧
      Tabs w0 w2 (.slice A2 (q + 1) cap2) (q + 1) n (fun t => if t = q then g else G t) C := by
  obtain ⟨i2, h2, hi2⟩ := Option.map_eq_some_iff.1 infoTT
  simp only [Prod.mk.injEq] at hi2
  obtain ⟨hz0, hz1, hz2⟩ := hi2
  have hsz := h.below.size
  have hb01 := h.below.trans (hb.mono hsz)
  have hrow1 := row_low h.row hb
  have hsz1 := hb01.size
  obtain ⟨v2, w2, hr, ho, hg, _, _⟩ := run_append_own_at (P := Tryz.prog) (w1.alloc (.cells #[.slice (some ⟨g, 0, none⟩) n n] 24)) w0.heap.size 137 137 24 i2 (.slice none 0 0) 1 24 Tryz.underlying137 h2 hz0 hz1 hz2 rfl (by decide) _ _ _ (hrow1.alloc _) ⟨w1.heap.size, 0, none⟩ 1 1 [.slice (some ⟨g, 0, none⟩) n n] rfl (cell_one_new w1 _ _)
    (fun u hu => by rw [List.mem_singleton.1 hu]; rfl) (by unfold maxLen; omega) (by omega) (by simp; omega)
  obtain ⟨A2, cap2, rfl, _, _, _⟩ := own_slice ho
  refine ⟨A2, cap2, w2, hr, ?_, fun t ht2 => ?_, ?_⟩
  · have h3 := ho
    rw [show ((List.range q).map fun t => Value.slice (some ⟨G t, 0, none⟩) n n) ++ [.slice (some ⟨g, 0, none⟩) n n] = (List.range (q + 1)).map fun t => .slice (some ⟨if t = q then g else G t, 0, none⟩) n n by
      rw [List.range_succ, List.map_append, List.map_singleton, if_pos rfl]
      congr 1
      apply List.map_congr_left
      intro t ht2
      have := List.mem_range.1 ht2
      rw [if_neg (by omega)]] at h3
    exact h3
  · have hrow2 := hrow1.alloc (.cells #[.slice (some ⟨g, 0, none⟩) n n] 24)
    by_cases e : t = q
    · subst e
      simp only [if_true]
      rw [hD]
      exact (((ht.mono hsz).alloc' _).grown_row hrow2 hg)
    · simp only [if_neg e]
      exact ((((h.tab t (by omega)).low_kept hb).alloc' _).grown_row hrow2 hg)
  · exact (hb01.alloc hsz1 _).grown hg (by simp; omega) (fun k hk => (hrow1.lt k hk).1)
/-- Tables that are read. -/
def TabsR (w : World) (v : Value) (q n : Nat) (C : Nat → Nat → List Nat) : Prop :=
  ∃ b c, v = .slice (some ⟨b, 0, none⟩) q c ∧ ∀ t, t < q → ∃ g, w.cell? ⟨b, t, none⟩ = some (.slice (some ⟨g, 0, none⟩) n n) ∧ TabR w g n (C t)
theorem Tabs.read {w0 w : World} {v : Value} {q n : Nat} {G : Nat → Nat} {C : Nat → Nat → List Nat} (h : Tabs w0 w v q n G C) (hq : 0 < q) : TabsR w v q n C := by
  obtain ⟨A, c, rfl, _, _, hA⟩ := own_slice h.row
  obtain ⟨b, rfl⟩ := hA hq
  refine ⟨b, c, rfl, fun t ht => ⟨G t, ?_, (h.tab t ht).read⟩⟩
  rw [World.ownsRow.cellAt h.row t (by omega), List.getElem?_map, List.getElem?_range ht]
  rfl
theorem TabsR.below {w w' : World} {v : Value} {q n : Nat} {C : Nat → Nat → List Nat} (h : TabsR w v q n C) (hb : Below w.heap.size w w') : TabsR w' v q n C := by
  obtain ⟨b, c, rfl, hc⟩ := h
  refine ⟨b, c, rfl, fun t ht => ?_⟩
  obtain ⟨g, h1, h2⟩ := hc t ht
  exact ⟨g, (hb.cell (p := ⟨b, t, none⟩) (World.block_lt_of_cell? w _ h1)).trans h1, h2.below hb⟩
end Go.Proofs.YtmgmgmbpldboiaaGreat
