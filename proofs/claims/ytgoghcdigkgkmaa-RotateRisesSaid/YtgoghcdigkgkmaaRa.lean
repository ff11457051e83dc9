/- The law RotateRises, walked, over what is asked of the sort. -/
import Derived.Test.YtgoghcdigkgkmaaKm
namespace Go.Proofs.Ytgoghcdigkgkmaa
open Go.RowKit

/-- The numbers that have been seen: the first k of L. -/
def Seen (w : World) (sb n k : Nat) (L : List Nat) : Prop := ∃ cs, Blk w sb 4 cs ∧ ∀ p, p < n → cs[p]? = some (.bool (decide (p ∈ L.take k)))

theorem Seen.zeros (w : World) (n : Nat) (L : List Nat) : Seen (w.alloc (.cells (madeCells #[.bool false] n) 4)) w.heap.size n 0 L := by
  refine ⟨_, blk_new w 4 _, fun p hp => ?_⟩
  rw [← Array.getElem?_toList, toList_madeCells_one, List.getElem?_replicate, if_pos hp]
  simp
theorem Seen.next {w : World} {sb n k : Nat} {L : List Nat} (h : Seen w sb n k L) (hk : k < L.length) (_ : L.getD k 0 < n) : Seen (w.setCell ⟨sb, L.getD k 0, none⟩ (.bool true)) sb n (k + 1) L := by
  obtain ⟨cs, hb, hc⟩ := h
  refine ⟨_, blk_set hb _ _, fun p hp => ?_⟩
  have hs : p < cs.size := by
    rcases Nat.lt_or_ge p cs.size with h2 | h2
    · exact h2
    · have := hc p hp
      rw [Array.getElem?_eq_none h2] at this
      cases this
  have ht : L.take (k + 1) = L.take k ++ [L.getD k 0] := by
    rw [List.take_add_one, List.getD_eq_getElem?_getD, List.getElem?_eq_getElem hk]
    rfl
  rw [Array.getElem?_setIfInBounds, ht]
  by_cases e : L.getD k 0 = p
  · subst e
    rw [if_pos rfl, if_pos hs]
    simp
  · rw [if_neg e, hc p hp]
    have : (p ∈ L.take k ++ [L.getD k 0]) ↔ p ∈ L.take k := by
      rw [List.mem_append, List.mem_singleton]
      exact ⟨fun h => h.resolve_right fun e2 => e e2.symm, .inl⟩
    rw [decide_eq_decide.2 this]
theorem Seen.cell {w : World} {sb n k : Nat} {L : List Nat} (h : Seen w sb n k L) {p : Nat} (hp : p < n) (hn : p ∉ L.take k) : w.cell? ⟨sb, p, none⟩ = some (.bool false) := by
  obtain ⟨cs, hb, hc⟩ := h
  rw [blk_cell hb, hc p hp, decide_eq_false hn]
theorem Seen.frozen {w : World} {sb n k : Nat} {L : List Nat} (h : Seen w sb n k L) (p : Nat) : w.frozen? ⟨sb, p, none⟩ = false := by
  obtain ⟨cs, hb, hc⟩ := h
  exact blk_frozen hb p
theorem Seen.step {B : Nat} {w w' : World} {sb n k : Nat} {L : List Nat} (h : Seen w sb n k L) (s : Step B [] [] w w') : Seen w' sb n k L := by
  obtain ⟨cs, hb, hc⟩ := h
  exact ⟨cs, s.blk hb (by simp) (by simp), hc⟩

/-- Of neighbours in the order the former is not greater. -/
theorem neighbours {s : List UInt8} {L : List Nat} (h : IsOrd s L) {k : Nat} (hk : k + 1 < L.length) :
    cmpV s (L.getD k 0) (L.getD (k + 1) 0) = -1 ∨ (cmpV s (L.getD k 0) (L.getD (k + 1) 0) = 0 ∧ L.getD k 0 < L.getD (k + 1) 0) := by
  have h1 := List.pairwise_iff_getElem.1 h.1 k (k + 1) (by omega) hk (by omega)
  rw [List.getD_eq_getElem?_getD, List.getD_eq_getElem?_getD, List.getElem?_eq_getElem hk, List.getElem?_eq_getElem (show k < L.length by omega)]
  simp only [Option.getD_some]
  rcases h1 with h2 | ⟨h2, h3⟩
  · left
    unfold cmpV
    rw [if_pos h2]
  · right
    exact ⟨(cmpV_zero _ _ _).2 h2, h3⟩
theorem ord_low {s : List UInt8} {L : List Nat} (h : IsOrd s L) {k : Nat} (hk : k < L.length) : L.getD k 0 < s.length := by
  rw [List.getD_eq_getElem?_getD, List.getElem?_eq_getElem hk]
  exact (h.2 _).1 (List.getElem_mem hk)
theorem ord_new {s : List UInt8} {L : List Nat} (h : IsOrd s L) {k : Nat} (hk : k < L.length) : L.getD k 0 ∉ L.take k := by
  intro hm
  rw [List.getD_eq_getElem?_getD, List.getElem?_eq_getElem hk] at hm
  obtain ⟨j, hj, e⟩ := List.mem_iff_getElem.1 hm
  rw [List.length_take] at hj
  rw [List.getElem_take] at e
  have := (List.getElem_inj (isOrd_nodup h)).1 e
  omega

theorem info4 : (Try.prog.info? 4).map (fun i => (i.zero, i.size, i.bytes)) = some (some (.bool false), 1, 1) := by kernel_rfl

set_option maxRecDepth 100000 in
theorem rises_big (S6 : SortOk 6) (w : World) (s : ByteArray) (ws : s.size ≤ maxLen) (h : 1000 < s.size) : Calls Try.prog 7 #[.string s] w fun e w' => e = .returned (.bool true) ∧ Below w.heap.size w w' := by
  unfold maxLen at ws
  have d1 : decide ((1000 : Int) < (s.size : Int)) = true := decide_eq_true (by omega)
  go_enter Try.func7, Try.ntmps7
  go_wp2_with fail
  refine (awake_any S6 w).mono ?_
  rintro e w1 ⟨rfl, hb⟩
  have HB := Lib.hid hb
  clear hb
  go_wp2_with fail
  go_ret
  exact ⟨rfl, HB.out⟩

set_option maxHeartbeats 4000000 in
set_option maxRecDepth 100000 in
theorem rises_walk (N : Nat) (S : SortOk N) (S6 : SortOk 6) (w : World) (s : ByteArray) (h : s.size ≤ 1000) (hN : s.size ≤ N) : Calls Try.prog 7 #[.string s] w fun e w' => e = .returned (.bool true) ∧ Below w.heap.size w w' := by
  obtain ⟨i4, h4, hz0, hz1, hz2⟩ := info_parts info4
  have hmk : ∀ w1 : World, (Instr.makeSlice 37 (.int .i64 s.size) (.int .i64 s.size)).run Try.prog w1 = .ok (.slice (some ⟨w1.heap.size, 0, none⟩) s.size s.size) (w1.alloc (.cells (madeCells #[.bool false] s.size) 4)) := by
    intro w1
    have h := run_make (P := Try.prog) w1 37 4 i4 (.bool false) Try.underlying37 h4 hz0 .i64 .i64 (s.size : Int) (s.size : Int) (by omega) (by omega) (by rw [hz2]; omega) (by omega)
    rw [hz1, Int.toNat_natCast, Nat.mul_one] at h
    exact h
  have d1 : decide ((1000 : Int) < (s.size : Int)) = false := decide_eq_false (by omega)
  have hsl : s.data.toList.length = s.size := rfl
  have HSL := Lib.hid hsl
  clear hsl
  have HA := Lib.hid (order_any N S w s hN (by omega))
  have HC := Lib.hid fun (a b : Nat) (ha : a < s.size) (hb : b < s.size) (w1 : World) => ccmp_any w1 s a b ha hb (by omega)
  go_enter Try.func7, Try.ntmps7
  go_wp2_with fail
  refine HA.out.mono ?_
  rintro e w1 ⟨g, L, he, hrow, hord, hg, hb⟩
  rw [HSL.out] at he
  subst he
  have hLn : L.length = s.size := (isOrd_length hord).trans HSL.out
  have hgl := hrow.lt
  have HROW := Lib.hid hrow
  have HORD := Lib.hid hord
  have HB := Lib.hid hb
  have HLN := Lib.hid hLn
  have hbs := hb.size
  have HBS := Lib.hid hbs
  have HGL := Lib.hid hgl
  clear hrow hord hb hg hLn hbs hgl
  have START : Hid (Seen (w1.alloc (.cells (madeCells #[.bool false] s.size) 4)) w1.heap.size s.size 0 L) := Seen.zeros _ _ _
  have SROW : Hid (IRow (w1.alloc (.cells (madeCells #[.bool false] s.size) 4)) g L) := ((Step.refl w1.heap.size [] [] w1).alloc (Nat.le_refl _) _).irow HROW.out (by simp) (by simp)
  have SB : Hid (Below w.heap.size w (w1.alloc (.cells (madeCells #[.bool false] s.size) 4))) := HB.out.alloc HBS.out _
  go_wp2_with fail
  obtain ⟨sb, hsb⟩ : ∃ x, x = w1.heap.size := ⟨_, rfl⟩
  rw [← hsb] at START ⊢
  have HSB : Hid (w.heap.size ≤ sb ∧ g < sb) := by
    refine ⟨?_, ?_⟩
    · rw [hsb]; exact HBS.out
    · rw [hsb]; exact HGL.out
  generalize w1.alloc (.cells (madeCells #[.bool false] s.size) 4) = w2 at START SROW SB ⊢
  clear hsb HROW HB HBS HGL HA
  go_loopw [5] (fun x wr => ∃ k : Nat, x = .int .i64 k ∧ k ≤ s.size ∧ IRow wr g L ∧ Seen wr sb s.size k L ∧ Below w.heap.size w wr) (fun x _ => s.size - (intOf x).toNat)
  case atStart => exact ⟨0, rfl, Nat.zero_le _, SROW.out, START.out, SB.out⟩
  case round =>
    clear START SROW SB
    obtain ⟨k, rfl, hk, hrow, hseen, hbel⟩ := hrel
    by_cases hlt : k < s.size
    · have e1 : decide ((k : Int) < (s.size : Int)) = true := decide_eq_true (by omega)
      have hkL : k < L.length := by rw [HLN.out]; exact hlt
      have hvn : L.getD k 0 < s.size := by have := ord_low HORD.out hkL; rw [HSL.out] at this; exact this
      have c1 := hrow.cell hkL
      have c2 := hseen.cell hvn (ord_new HORD.out hkL)
      have f2 := hseen.frozen (L.getD k 0)
      have NX := Lib.hid (hseen.next hkL hvn)
      have RX : Hid (IRow (wr.setCell ⟨sb, L.getD k 0, none⟩ (.bool true)) g L) := ((Step.refl w.heap.size [sb] [] wr).set (p := ⟨sb, L.getD k 0, none⟩) HSB.out.1 List.mem_cons_self _).irow hrow (by have := HSB.out.2; simp; omega) (by simp)
      have BX := Lib.hid (hbel.setCell (p := ⟨sb, L.getD k 0, none⟩) HSB.out.1 (.bool true))
      clear hrow hseen hbel
      obtain ⟨v, hv⟩ : ∃ x, x = L.getD k 0 := ⟨_, rfl⟩
      rw [← hv] at c1 c2 f2 NX RX BX hvn
      have HV := Lib.hid hv
      clear hv hkL
      have e2 : decide ((v : Int) < 0) = false := decide_eq_false (by omega)
      have e3 : decide ((s.size : Int) ≤ (v : Int)) = false := decide_eq_false (by omega)
      rcases Nat.eq_zero_or_pos k with h0 | h0
      · subst h0
        go_wp2_with fail
        generalize wr.setCell ⟨sb, v, none⟩ (.bool true) = w3 at NX RX BX ⊢
        go_wp2_with fail
        go_roundw
        case rel => exact ⟨1, by go_num, by omega, RX.out, NX.out, BX.out⟩
        case measure => (simp [intOf] <;> omega)
      · have e4 : ((k : Int) == 0) = false := by simp; omega
        obtain ⟨km, hkm⟩ : ∃ x, k = x + 1 := ⟨k - 1, by omega⟩
        have HNB := neighbours HORD.out (k := km) (by rw [HLN.out]; omega)
        rw [← hkm, ← HV.out] at HNB
        have hkmL : km < L.length := by rw [HLN.out]; omega
        have hun : L.getD km 0 < s.size := by have := ord_low HORD.out hkmL; rw [HSL.out] at this; exact this
        have z1 : (k : Int) - 1 = (km : Int) := by omega
        have hkm2 : km < s.size := by omega
        obtain ⟨u, hu⟩ : ∃ x, x = L.getD km 0 := ⟨_, rfl⟩
        have HU := Lib.hid hu
        rw [← hu] at HNB hun
        clear hu
        have HNB2 := Lib.hid HNB
        have HLT := Lib.hid hkmL
        clear HNB hkmL hkm
        have c3 := RX.out.cell HLT.out
        have c4 := RX.out.cell (i := k) (by rw [HLN.out]; exact hlt)
        rw [← HU.out] at c3
        rw [← HV.out] at c4
        have HC3 := Lib.hid (HC u v hun hvn)
        go_upto_region 14 with fail
        generalize wr.setCell ⟨sb, v, none⟩ (.bool true) = w3 at NX RX BX c3 c4 ⊢
        clear c1 c2 f2
        have step : ∀ q, Step w3.heap.size [] [] w3 (w3.drewN q) := fun q => step_of_below (below_drewN (Below.refl _ w3) q)
        have ST := Lib.hid step
        clear step
        rcases HNB2.out with hc | ⟨hc, huv⟩
        · rw [hc] at HC3
          have HC4 := Lib.hid hc
          clear hc
          go_wp2_with fail
          go_quiet ((go_at_call 10; exact Calls.quiet_of (HC3.out _)))
          have RN := Lib.hid (RX.out)
          have R2 : Hid (IRow (w3.drewN nq) g L) := (ST.out nq).irow RX.out (by simp) (by simp)
          have N2 := Lib.hid (NX.out.step (ST.out nq))
          have B2 := Lib.hid (below_drewN BX.out nq)
          clear c3 c4
          generalize w3.drewN nq = w4 at R2 N2 B2 ⊢
          have q1 : ((0 : Int) != 0) = false := rfl
          have q2 : decide ((0 : Int) < -1) = false := rfl
          have q3 : ((-1 : Int) == 0) = false := rfl
          have q4 : decide ((0 : Int) < 0) = false := rfl
          have q5 : ((0 : Int) == 0) = true := rfl
          go_wp2_with fail
          go_quiet (fail)
          have ST4 := Lib.hid (fun q => step_of_below (below_drewN (Below.refl _ w4) q))
          have R3 : Hid (IRow (w4.drewN nq) g L) := (ST4.out nq).irow R2.out (by simp) (by simp)
          have N3 := Lib.hid (N2.out.step (ST4.out nq))
          have B3 := Lib.hid (below_drewN B2.out nq)
          generalize w4.drewN nq = w5 at R3 N3 B3 ⊢
          go_wp2_with fail
          go_roundw
          case rel => exact ⟨k + 1, by go_num, by omega, R3.out, N3.out, B3.out⟩
          case measure => (simp [intOf] <;> omega)
        · rw [hc] at HC3
          have HC4 := Lib.hid hc
          clear hc
          go_wp2_with fail
          go_quiet ((go_at_call 10; exact Calls.quiet_of (HC3.out _)))
          have R2 : Hid (IRow (w3.drewN nq) g L) := (ST.out nq).irow RX.out (by simp) (by simp)
          have N2 := Lib.hid (NX.out.step (ST.out nq))
          have B2 := Lib.hid (below_drewN BX.out nq)
          clear c3 c4
          generalize w3.drewN nq = w4 at R2 N2 B2 ⊢
          have c3 := R2.out.cell HLT.out
          have c4 := R2.out.cell (i := k) (by rw [HLN.out]; exact hlt)
          rw [← HU.out] at c3
          rw [← HV.out] at c4
          have e5 : decide ((v : Int) < (u : Int)) = false := decide_eq_false (by omega)
          have e6 : ¬ v < u := by omega
          have q1 : ((0 : Int) != 0) = false := rfl
          have q2 : decide ((0 : Int) < -1) = false := rfl
          have q3 : ((-1 : Int) == 0) = false := rfl
          have q4 : decide ((0 : Int) < 0) = false := rfl
          have q5 : ((0 : Int) == 0) = true := rfl
          go_wp2_with fail
          go_quiet (fail)
          have ST4 := Lib.hid (fun q => step_of_below (below_drewN (Below.refl _ w4) q))
          have R3 : Hid (IRow (w4.drewN nq) g L) := (ST4.out nq).irow R2.out (by simp) (by simp)
          have N3 := Lib.hid (N2.out.step (ST4.out nq))
          have B3 := Lib.hid (below_drewN B2.out nq)
          generalize w4.drewN nq = w5 at R3 N3 B3 ⊢
          go_wp2_with fail
          go_roundw
          case rel => exact ⟨k + 1, by go_num, by omega, R3.out, N3.out, B3.out⟩
          case measure => (simp [intOf] <;> omega)
    · have e1 : decide ((k : Int) < (s.size : Int)) = false := decide_eq_false (by omega)
      have HBL := Lib.hid hbel
      clear hrow hseen hbel
      go_wp2_with fail
      refine (awake_any S6 _).mono ?_
      rintro e w3 ⟨rfl, hb⟩
      have HC2 := Lib.hid (HBL.out.trans (hb.mono HBL.out.size))
      clear hb
      go_wp2_with fail
      go_ret
      exact ⟨rfl, HC2.out⟩

end Go.Proofs.Ytgoghcdigkgkmaa
