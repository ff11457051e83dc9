/- The reference of rotate, walked: merged. Conditions: at most a million numbers. -/
import Derived.Test.YtglcideecelemaaGf
import Derived.Test.YtglcideecelemaaI
import Derived.Lib.AppendZeros
namespace Go.Proofs.Ytglcideecelemaa
open Go.RowKit

/-- A slice of numbers that is read, with its room. -/
def Nums (w : World) (A : Option Addr) (n c : Nat) (L : List Nat) : Prop := IntsIn w A n L ∧ n ≤ c ∧ c ≤ maxLen

theorem nums_tail {w : World} {b off n c x : Nat} {L : List Nat} (h : Nums w (some ⟨b, off, none⟩) n c (x :: L)) (hn : 0 < n) : Nums w (if c = 1 then some ⟨b, off, none⟩ else some ⟨b, off + 1, none⟩) (n - 1) (c - 1) L := by
  obtain ⟨⟨hl, hc⟩, h1, h2⟩ := h
  simp only [List.length_cons] at hl
  refine ⟨⟨by omega, fun h0 => ?_⟩, by omega, by omega⟩
  rw [if_neg (by omega)]
  obtain ⟨b', o', e, hcell⟩ := hc hn
  simp only [Option.some.injEq, Addr.mk.injEq] at e
  obtain ⟨rfl, rfl, _⟩ := e
  refine ⟨b, off + 1, rfl, fun i hi => ?_⟩
  have := hcell (i + 1) (by omega)
  rw [show off + (i + 1) = off + 1 + i by omega] at this
  rw [this]
  rfl

theorem ints_below {w w' : World} {A : Option Addr} {n : Nat} {L : List Nat} (h : IntsIn w A n L) (hb : Below w.heap.size w w') : IntsIn w' A n L := by
  refine ⟨h.1, fun hn => ?_⟩
  obtain ⟨b, off, rfl, hc⟩ := h.2 hn
  refine ⟨b, off, rfl, fun i hi => ?_⟩
  exact (hb.cell (p := ⟨b, off + i, none⟩) (World.block_lt_of_cell? w _ (hc i hi))).trans (hc i hi)

def sliceLen : Value → Nat
  | .slice _ n _ => n
  | _ => 0

set_option maxHeartbeats 1600000 in
set_option maxRecDepth 100000 in
theorem rmerged_any (w : World) (s : ByteArray) (A B : Option Addr) (n c m d : Nat) (La Lb : List Nat) (hA : Nums w A n c La) (hB : Nums w B m d Lb) (hla : ∀ x ∈ La, x < s.size) (hlb : ∀ x ∈ Lb, x < s.size) (hs : s.size ≤ 1000000) (hnm : n + m ≤ 1000000) :
    Calls Try.prog 24 #[.string s, .slice A n c, .slice B m d] w fun e w' => ∃ v, e = .returned v ∧ w'.ownsRow w.heap.size 3 1 v (n + m) ((mergeL s.data.toList La Lb).map iv) ∧ Below w.heap.size w w' := by
  obtain ⟨i3, h3, hz0, hz1, hz2⟩ := info_parts Try.info3
  have HA := Lib.hid hA
  have HB := Lib.hid hB
  clear hA hB
  go_enter Try.func24, Try.ntmps24
  go_wp2_with fail
  go_loopw [1, 2, 7] (fun a b v wr => ∃ (A' B' : Option Addr) (n' c' m' d' : Nat) (La' Lb' o : List Nat), a = .slice A' n' c' ∧ b = .slice B' m' d' ∧ Nums w A' n' c' La' ∧ Nums w B' m' d' Lb' ∧ (∀ x ∈ La', x < s.size) ∧ (∀ x ∈ Lb', x < s.size) ∧
    wr.ownsRow w.heap.size 3 1 v o.length (o.map iv) ∧ o.length + n' + m' = n + m ∧ o ++ mergeL s.data.toList La' Lb' = mergeL s.data.toList La Lb ∧ Below w.heap.size w wr) (fun a b _ _ => sliceLen a + sliceLen b)
  case atStart => exact ⟨A, B, n, c, m, d, La, Lb, [], rfl, rfl, HA.out, HB.out, hla, hlb, World.ownsRow_nil _ _ _ _, by simp, rfl, Below.refl _ _⟩
  case round =>
    obtain ⟨A', B', n', c', m', d', La', Lb', o, rfl, rfl, ⟨hA', hnc, hcm⟩, ⟨hB', hmd, hdm⟩, ha, hb, hown, hsum, hcat, hbl⟩ := hrel
    have hz := hbl.size
    unfold maxLen at hcm hdm
    obtain ⟨A0, c0, rfl, hn0, hm0, hA0⟩ := own_slice hown
    clear hA0
    unfold maxLen at hm0
    by_cases e1 : 0 < n'
    · by_cases e2 : 0 < m'
      · obtain ⟨b1, o1, rfl, hc1⟩ := hA'.2 e1
        obtain ⟨b2, o2, rfl, hc2⟩ := hB'.2 e2
        have hlA := hA'.1
        have hlB := hB'.1
        obtain ⟨x, La1, rfl⟩ : ∃ x l, La' = x :: l := by cases La' with | nil => simp at hlA; omega | cons x l => exact ⟨x, l, rfl⟩
        obtain ⟨y, Lb1, rfl⟩ : ∃ y l, Lb' = y :: l := by cases Lb' with | nil => simp at hlB; omega | cons y l => exact ⟨y, l, rfl⟩
        have g1 := (hbl.cell (p := ⟨b1, o1 + 0, none⟩) (World.block_lt_of_cell? w _ (hc1 0 e1))).trans (hc1 0 e1)
        have g2 := (hbl.cell (p := ⟨b2, o2 + 0, none⟩) (World.block_lt_of_cell? w _ (hc2 0 e2))).trans (hc2 0 e2)
        rw [Nat.add_zero] at g1 g2
        have g1' : wr.cell? ⟨b1, o1, none⟩ = some (.int .i64 x) := g1
        have g2' : wr.cell? ⟨b2, o2, none⟩ = some (.int .i64 y) := g2
        have HR := Lib.hid fun w1 : World => rahead_any w1 s x y (ha x List.mem_cons_self) (hb y List.mem_cons_self) hs
        clear g1 g2
        have d1 : decide ((0 : Int) < (n' : Int)) = true := decide_eq_true (by omega)
        have d2 : decide ((0 : Int) < (m' : Int)) = true := decide_eq_true (by omega)
        have HO := Lib.hid hown
        have HBL := Lib.hid hbl
        have HNA := Lib.hid (show Nums w _ n' c' (x :: La1) from ⟨hA', hnc, hcm⟩)
        have HNB := Lib.hid (show Nums w _ m' d' (y :: Lb1) from ⟨hB', hmd, hdm⟩)
        have hmc := mergeL_cons s.data.toList x y La1 Lb1
        have HCAT := Lib.hid hcat
        clear hown hbl hc1 hc2 hcat hA' hB'
        go_wp2_with fail
        go_quiet (first | (go_at_call 33; exact Calls.quiet_of (HR.out _)))
        by_cases hlt : RLt s.data.toList x y
        · have dl : decide (RLt s.data.toList x y) = true := decide_eq_true hlt
          have HO2 : (wr.drewN nq).ownsRow w.heap.size 3 1 (.slice A0 o.length c0) o.length (o.map iv) := HO.out
          have HB2 : Below w.heap.size w (wr.drewN nq) := below_drewN HBL.out _
          obtain ⟨N, hN⟩ : ∃ N, N = o.length := ⟨_, rfl⟩
          obtain ⟨X, hX⟩ : ∃ X, X = o.map iv := ⟨_, rfl⟩
          rw [← hN] at HO2 hn0 hsum ⊢
          rw [← hX] at HO2
          have HN := Lib.hid hN
          have HX := Lib.hid hX
          clear hN hX
          go_wp2_with (at_builtin; refine wpList_append_own _ rfl _ _ 34 rfl w.heap.size 3 i3 (.int .i64 0) 1 8 Try.underlying34 h3 hz0 hz1 hz2 rfl (by decide) _ _ _ rfl (HO2.alloc _) ⟨wr.heap.size, 0, none⟩ 1 1 [.int .i64 x] rfl rfl ?c1 ?c2 ?c3 ?c4 ?c5 ?_)
          case c1 => exact cell_one_new _ _ _
          case c2 => intro u hu; simp at hu; subst hu; rfl
          case c3 => unfold maxLen; omega
          case c4 => omega
          case c5 => simp; omega
          intro v2 w2 hown2 hgrow2 _
          have hb2 : Below w.heap.size w w2 := (HB2.alloc hz _).grown hgrow2 (by simp; omega) (fun k hk => (HO2.lt k hk).1)
          have HOWN2 := Lib.hid hown2
          have HBB := Lib.hid hb2
          clear HO2 HB2 hown2 hb2 hgrow2
          go_wp2_with fail
          rw [if_pos hlt] at hmc
          go_roundw
          case rel =>
            refine ⟨_, _, _, _, _, _, La1, y :: Lb1, o ++ [x], rfl, rfl, nums_tail HNA.out e1, HNB.out, fun z hz => ha z (List.mem_cons_of_mem _ hz), hb, ?_, ?_, ?_, HBB.out⟩
            · rw [List.length_append, ← HN.out, List.map_append, ← HX.out]
              exact HOWN2.out
            · rw [List.length_append, ← HN.out, List.length_singleton]
              omega
            · rw [← HCAT.out, hmc, List.append_assoc]
              rfl
          case measure =>
            show n' - 1 + m' < n' + m'
            omega
        · have dl : decide (RLt s.data.toList x y) = false := decide_eq_false hlt
          have HO2 : (wr.drewN nq).ownsRow w.heap.size 3 1 (.slice A0 o.length c0) o.length (o.map iv) := HO.out
          have HB2 : Below w.heap.size w (wr.drewN nq) := below_drewN HBL.out _
          obtain ⟨N, hN⟩ : ∃ N, N = o.length := ⟨_, rfl⟩
          obtain ⟨X, hX⟩ : ∃ X, X = o.map iv := ⟨_, rfl⟩
          rw [← hN] at HO2 hn0 hsum ⊢
          rw [← hX] at HO2
          have HN := Lib.hid hN
          have HX := Lib.hid hX
          clear hN hX
          go_wp2_with (at_builtin; refine wpList_append_own _ rfl _ _ 34 rfl w.heap.size 3 i3 (.int .i64 0) 1 8 Try.underlying34 h3 hz0 hz1 hz2 rfl (by decide) _ _ _ rfl (HO2.alloc _) ⟨wr.heap.size, 0, none⟩ 1 1 [.int .i64 y] rfl rfl ?c1 ?c2 ?c3 ?c4 ?c5 ?_)
          case c1 => exact cell_one_new _ _ _
          case c2 => intro u hu; simp at hu; subst hu; rfl
          case c3 => unfold maxLen; omega
          case c4 => omega
          case c5 => simp; omega
          intro v2 w2 hown2 hgrow2 _
          have hb2 : Below w.heap.size w w2 := (HB2.alloc hz _).grown hgrow2 (by simp; omega) (fun k hk => (HO2.lt k hk).1)
          have HOWN2 := Lib.hid hown2
          have HBB := Lib.hid hb2
          clear HO2 HB2 hown2 hb2 hgrow2
          go_wp2_with fail
          rw [if_neg hlt] at hmc
          go_roundw
          case rel =>
            refine ⟨_, _, _, _, _, _, x :: La1, Lb1, o ++ [y], rfl, rfl, HNA.out, nums_tail HNB.out e2, ha, fun z hz => hb z (List.mem_cons_of_mem _ hz), ?_, ?_, ?_, HBB.out⟩
            · rw [List.length_append, ← HN.out, List.map_append, ← HX.out]
              exact HOWN2.out
            · rw [List.length_append, ← HN.out, List.length_singleton]
              omega
            · rw [← HCAT.out, hmc, List.append_assoc]
              rfl
          case measure =>
            show n' + (m' - 1) < n' + m'
            omega
      · have hmz : mergeL s.data.toList La' Lb' = La' ++ Lb' := by
          have h0 : Lb' = [] := List.eq_nil_of_length_eq_zero (by rw [hB'.1]; omega)
          rw [h0, mergeL_none, List.append_nil]
        rw [hmz] at hcat
        obtain ⟨v2, w2, hr2, hown2, hgrow2⟩ := append_ints wr w.heap.size _ _ _ hown A' n' c' La' (ints_below hA' hbl) (by omega) hz
        have hb2 : Below w.heap.size w w2 := hbl.grown hgrow2 hz (fun k hk => (hown.lt k hk).1)
        obtain ⟨v3, w3, hr3, hown3, hgrow3⟩ := append_ints w2 w.heap.size _ _ _ hown2 B' m' d' Lb' (ints_below hB' hb2) (by omega) hb2.size
        have hb3 : Below w.heap.size w w3 := hb2.grown hgrow3 hb2.size (fun k hk => (hown2.lt k hk).1)
        have hres : w3.ownsRow w.heap.size 3 1 v3 (n + m) ((mergeL s.data.toList La Lb).map iv) := by
          rw [← hcat, show n + m = o.length + n' + m' by omega, List.map_append, List.map_append, ← List.append_assoc]
          exact hown3
        have HRES := Lib.hid hres
        have HB3 := Lib.hid hb3
        have HR2 := Lib.hid hr2
        have HR3 := Lib.hid hr3
        clear hres hb3 hr2 hr3 hown hown2 hown3 hgrow2 hgrow3 hb2 hbl hcat hmz hA' hB'
        have d1 : decide ((0 : Int) < (n' : Int)) = true := decide_eq_true (by omega)
        have d2 : decide ((0 : Int) < (m' : Int)) = false := decide_eq_false (by omega)
        go_wp2_with (at_builtin; first | refine Lib.wpList_append_run _ rfl _ _ 34 34 rfl (.slice A0 o.length c0) (.slice A' n' c') rfl rfl v2 w2 HR2.out ?_ | refine Lib.wpList_append_run _ rfl _ _ 34 34 rfl v2 (.slice B' m' d') rfl rfl v3 w3 HR3.out ?_)
        go_ret
        exact ⟨_, rfl, HRES.out, HB3.out⟩
    · have hmz : mergeL s.data.toList La' Lb' = La' ++ Lb' := by
        have h0 : La' = [] := List.eq_nil_of_length_eq_zero (by rw [hA'.1]; omega)
        rw [h0, mergeL_nil, List.nil_append]
      rw [hmz] at hcat
      obtain ⟨v2, w2, hr2, hown2, hgrow2⟩ := append_ints wr w.heap.size _ _ _ hown A' n' c' La' (ints_below hA' hbl) (by omega) hz
      have hb2 : Below w.heap.size w w2 := hbl.grown hgrow2 hz (fun k hk => (hown.lt k hk).1)
      obtain ⟨v3, w3, hr3, hown3, hgrow3⟩ := append_ints w2 w.heap.size _ _ _ hown2 B' m' d' Lb' (ints_below hB' hb2) (by omega) hb2.size
      have hb3 : Below w.heap.size w w3 := hb2.grown hgrow3 hb2.size (fun k hk => (hown2.lt k hk).1)
      have hres : w3.ownsRow w.heap.size 3 1 v3 (n + m) ((mergeL s.data.toList La Lb).map iv) := by
        rw [← hcat, show n + m = o.length + n' + m' by omega, List.map_append, List.map_append, ← List.append_assoc]
        exact hown3
      have HRES := Lib.hid hres
      have HB3 := Lib.hid hb3
      have HR2 := Lib.hid hr2
      have HR3 := Lib.hid hr3
      clear hres hb3 hr2 hr3 hown hown2 hown3 hgrow2 hgrow3 hb2 hbl hcat hmz hA' hB'
      have d1 : decide ((0 : Int) < (n' : Int)) = false := decide_eq_false (by omega)
      go_wp2_with (at_builtin; first | refine Lib.wpList_append_run _ rfl _ _ 34 34 rfl (.slice A0 o.length c0) (.slice A' n' c') rfl rfl v2 w2 HR2.out ?_ | refine Lib.wpList_append_run _ rfl _ _ 34 34 rfl v2 (.slice B' m' d') rfl rfl v3 w3 HR3.out ?_)
      go_ret
      exact ⟨_, rfl, HRES.out, HB3.out⟩

end Go.Proofs.Ytglcideecelemaa
