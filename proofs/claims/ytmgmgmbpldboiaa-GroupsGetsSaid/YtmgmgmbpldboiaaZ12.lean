/- Oi: texts laid together, what is not used left out. -/
import Derived.Test.YtmgmgmbpldboiaaZ11
import Derived.Test.YtmgmgmbpldboiaaZ01
namespace Go.Proofs.Ytmgmgmbpldboiaa
open Go.RowKit

/-- What Next answers. -/
def nxAns (l : List Nat) (at' : Nat) : Nx → Nat × Nat × Nat
  | .hit i => (i, at' + l.getD i 0, 0)
  | .short => (0, 0, 10)
  | .code => (0, 0, 90)
def NextPost (w : World) (a : Nat × Nat × Nat) (e : Ending) (w' : World) : Prop := e = .returned (.tuple #[.int .i64 a.1, .int .i64 a.2.1, .int .i64 a.2.2]) ∧ ∃ d, w' = w.drewN d

theorem nextF_short {l bs : List Nat} {q k : Nat} (h : bs.length < q) : nextF l bs (k + 1) q = .short := by
  rw [nextF, if_pos h]
theorem nextF_at {l bs : List Nat} {q k i : Nat} (h : ¬ bs.length < q) (hi : isAt l q (val (bs.take q)) = some i) : nextF l bs (k + 1) q = .hit i := by
  rw [nextF, if_neg h, hi]
theorem nextF_none {l bs : List Nat} {q k : Nat} (h : ¬ bs.length < q) (hi : isAt l q (val (bs.take q)) = none) : nextF l bs (k + 1) q = if val (bs.take q) * pw q < sumP l then nextF l bs k (q + 1) else .code := by
  rw [nextF, if_neg h, hi]

set_option maxRecDepth 100000 in
theorem ints_cut {w : World} {b off m k a : Nat} {L : List Nat} (h : IntsIn w (some ⟨b, off, none⟩) m L) (hak : a + k ≤ m) (n : Nat) (hn : n = k) : IntsIn w (some ⟨b, off + a, none⟩) n ((L.drop a).take k) := by
  subst hn
  have := h.cut (a := a) (k := n) hak
  simp only [Option.map_some, Addr.add_lit] at this
  exact this

set_option maxHeartbeats 3200000 in
set_option maxRecDepth 100000 in
theorem next_any (w : World) (g n : Nat) (l : List Nat) (hT : TabR w g n (codeB l)) (hf : Fits l) (hll : l.length = n) (hn : n ≤ 258) (B : Option Addr) (m c : Nat) (bits : List Nat) (hb : IntsIn w B m bits) (hmc : m ≤ c) (hm : m ≤ 1000000) (_hc : c ≤ maxLen) (h01 : Bit01 bits) (at' : Nat) (hat : at' ≤ m) :
    Calls Try.prog 31 #[.slice (some ⟨g, 0, none⟩) n n, .slice B m c, .int .i64 at'] w (NextPost w (nxAns l at' (nextL l (bits.drop at')))) := by
  have HT := Lib.hid hT
  have HF := Lib.hid hf
  have HLL := Lib.hid hll
  have HBI := Lib.hid hb
  obtain ⟨bs, hbs⟩ : ∃ bs, bs = bits.drop at' := ⟨_, rfl⟩
  have hbsl : bs.length = m - at' := by rw [hbs, List.length_drop, hb.1]
  have HBSL := Lib.hid hbsl
  have hb01 : Bit01 bs := by rw [hbs]; exact h01.drop _
  have HB01 := Lib.hid hb01
  have HBS := Lib.hid hbs
  have HCL : Hid (∀ j, j < n → (codeB l j).length ≤ 20) := Lib.hid fun j hj => by
    rw [codeB_length]
    exact (hf.one (by rw [hll]; exact hj)).2
  have HBEG := Lib.hid begins_any
  have HP : Hid (∀ (x : Nx) (d : Nat), nextL l bs = x → NextPost w (nxAns l at' (nextL l bs)) (.returned (.tuple #[.int .i64 (nxAns l at' x).1, .int .i64 (nxAns l at' x).2.1, .int .i64 (nxAns l at' x).2.2])) (w.drewN d)) := Lib.hid fun x d h => ⟨by rw [h], d, rfl⟩
  rw [← hbs]
  clear hT hf hll hb hbs hbsl h01 hb01
  generalize NextPost w (nxAns l at' (nextL l bs)) = PO at *
  go_enter Try.func31, Try.ntmps31
  go_wp2_with fail
  go_loopw [9] (fun nv wx => ∃ q : Nat, 1 ≤ q ∧ q ≤ 21 ∧ nv = .int .i64 q ∧ Hid (Clear l bs q) ∧ Hid (nextL l bs = nextF l bs (21 - q) q) ∧ ∃ d, wx = w.drewN d) (fun nv _ => 22 - (intOf nv).toNat)
  case atStart => exact ⟨1, Nat.le_refl _, by omega, rfl, Lib.hid (fun k h1 h2 => by omega), Lib.hid rfl, 0, rfl⟩
  case round =>
    obtain ⟨q, hq1, hq2, rfl, hclear, hnx, hd⟩ := hrel
    have HD := Lib.hid hd
    by_cases e : q ≤ 20
    · have d0 : decide ((q : Int) ≤ 20) = true := decide_eq_true (by omega)
      have hnx2 := hnx.out
      rw [show 21 - q = (20 - q) + 1 by omega] at hnx2
      obtain ⟨p, hp⟩ : ∃ p, p = at' + q := ⟨_, rfl⟩
      have hpz : (at' : Int) + (q : Int) = (p : Int) := by omega
      have hpb : p ≤ 1000020 := by omega
      by_cases es : m < p
      · have d1 : decide ((m : Int) < (p : Int)) = true := decide_eq_true (by omega)
        rw [nextF_short (by rw [HBSL.out]; omega)] at hnx2
        obtain ⟨d, rfl⟩ := hd
        have HPE := Lib.hid (HP.out _ d hnx2)
        clear hnx2 hnx hclear hp
        go_wp2_with fail
        first | exact HPE.out | (go_ret3; exact HPE.out)
      · have d1 : decide ((m : Int) < (p : Int)) = false := decide_eq_false (by omega)
        have hlen : ¬ bs.length < q := by rw [HBSL.out]; omega
        obtain ⟨b, off, rfl, hcells⟩ := HBI.out.2 (by omega)
        have hca : ¬ c = at' := by omega
        have hq3 : at' < p := by omega
        have hpm : p ≤ m := by omega
        have hpc : p ≤ c := by omega
        have htl : (bs.take q).length = q := by rw [List.length_take]; omega
        have HTL := Lib.hid htl
        have HLEN := Lib.hid hlen
        have HNX := Lib.hid hnx2
        have HP2 := Lib.hid hp
        have HBG := Lib.hid fun (wi : World) (hwi : ∃ d, wi = w.drewN d) (k c' : Nat) (hk : k = q) => HBEG.out wi g n (codeB l) (by
          obtain ⟨d, rfl⟩ := hwi
          exact HT.out) hn (some ⟨b, off + at', none⟩) k c' (bs.take q) (by
          obtain ⟨d, rfl⟩ := hwi
          have h := ints_cut HBI.out (a := at') (k := q) (by have := HP2.out; omega) k hk
          rw [← HBS.out] at h
          exact h) (by omega) (by omega) HCL.out
        have hat2 : (at' : Int) ≤ (p : Int) := by omega
        have hpc2 : (p : Int) ≤ (c : Int) := by omega
        clear hcells hd hlen htl hnx2 hnx hp
        go_wp2_with fail
        refine (HBG.out wr HD.out _ _ (by have := HP2.out; omega)).mono ?_
        rintro e w3 ⟨k, is, rfl, hk, hk0, his, hd3⟩
        have hd4 : ∃ d, w3 = w.drewN d := by
          obtain ⟨d, rfl⟩ := hd3
          obtain ⟨d2, hd2⟩ := HD.out
          exact ⟨d2 + d, by rw [hd2]; simp⟩
        have HD4 := Lib.hid hd4
        clear hd3 hd4
        rcases his with ⟨rfl, hnone⟩ | ⟨j, hj, rfl, hsame⟩
        · have hat0 : isAt l q (val (bs.take q)) = none := by
            cases hx : isAt l q (val (bs.take q)) with
            | none => rfl
            | some j =>
              have his := isAt_is hx
              exfalso
              have hjn : j < n := by have := his.1; rw [HLL.out] at this; exact this
              refine hnone j hjn ((same_is his.1 (HB01.out.take q) HF.out).2 ?_)
              rw [HTL.out]
              exact his
          have hnx3 := HNX.out
          rw [nextF_none HLEN.out hat0] at hnx3
          have hcb := clear_begin HF.out HB01.out (n := q) (by have := HLEN.out; omega) e hclear.out
          by_cases ek : k = 0
          · have hno : ¬ ∃ i, Begin l q (val (bs.take q)) i := by
              rintro ⟨i, hi⟩
              have hin : i < n := by have := hi.1; rw [HLL.out] at this; exact this
              refine hk0.1 ek i hin ((pre_begin hi.1 (HB01.out.take q) HF.out).2 ?_)
              rw [HTL.out]
              exact hi
            rw [if_neg (fun h => hno (hcb.2 h))] at hnx3
            have d2 : ((k : Int) == 0) = true := by rw [ek]; rfl
            obtain ⟨d, rfl⟩ := HD4.out
            have HPE := Lib.hid (HP.out _ d hnx3)
            clear hnx3 hcb hno hk0 ek hnone hat0
            go_wp2_with fail
            first | exact HPE.out | (go_ret3; exact HPE.out)
          · have hyes : ∃ i, Begin l q (val (bs.take q)) i := by
              rcases Classical.em (∃ i, Begin l q (val (bs.take q)) i) with h | h
              · exact h
              · exfalso
                apply ek
                rw [hk0]
                intro j hj hpre
                refine h ⟨j, ?_⟩
                have := (pre_begin (l := l) (i := j) (by rw [HLL.out]; exact hj) (HB01.out.take q) HF.out).1 hpre
                rw [HTL.out] at this
                exact this
            rw [if_pos (hcb.1 hyes)] at hnx3
            have d2 : ((k : Int) == 0) = false := by
              rw [beq_eq_false_iff_ne]
              omega
            have hup := hclear.out.up hat0
            have HUP := Lib.hid hup
            have HNX3 := Lib.hid hnx3
            clear hnx3 hcb hyes hk0 ek hnone hat0 hup
            go_wp2_with fail
            go_roundw
            case rel => exact ⟨q + 1, by omega, by omega, by go_num, HUP, Lib.hid (by rw [HNX3.out, show 21 - (q + 1) = 20 - q by omega]), HD4.out⟩
            case measure => simp [intOf]; omega
        · have his := (same_is (l := l) (i := j) (by rw [HLL.out]; exact hj) (HB01.out.take q) HF.out).1 hsame
          rw [HTL.out] at his
          have hnx3 := HNX.out
          rw [nextF_at HLEN.out (isAt_some HF.out his)] at hnx3
          obtain ⟨d, rfl⟩ := HD4.out
          have hpe := HP.out _ d hnx3
          have hto : (nxAns l at' (.hit j)).2.1 = p := by
            show at' + l.getD j 0 = p
            rw [his.2.1, HP2.out]
          rw [hto] at hpe
          have hpe2 : PO (.returned (.tuple #[.int .i64 (j : Nat), .int .i64 (p : Nat), .int .i64 0])) (w.drewN d) := hpe
          have HPE := Lib.hid hpe2
          clear hnx3 his hsame hk0 hpe hpe2 hto
          go_wp2_with fail
          first | exact HPE.out | (go_ret3; exact HPE.out)
    · obtain rfl : q = 21 := by omega
      have hnx2 : nextL l bs = .code := hnx.out
      obtain ⟨d, rfl⟩ := hd
      have HPE := Lib.hid (HP.out _ d hnx2)
      clear hnx2 hnx hclear
      go_wp2_with fail
      first | exact HPE.out | (go_ret3; exact HPE.out)

end Go.Proofs.Ytmgmgmbpldboiaa
