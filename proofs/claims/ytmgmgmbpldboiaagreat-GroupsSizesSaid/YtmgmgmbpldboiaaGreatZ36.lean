/- Xg Xh Oj Ok Xj Xk: texts laid together, what is not used left out. -/
import Derived.Test.YtmgmgmbpldboiaaGreatZ35
import Derived.Test.YtmgmgmbpldboiaaGreatZ19
import Derived.Test.YtmgmgmbpldboiaaGreatZ28
import Derived.Test.YtmgmgmbpldboiaaGreatZ14
import Derived.Lib.OwnKind
namespace Go.Proofs.YtmgmgmbpldboiaaGreat
open Go.RowKit

theorem orI_bit (x b : Nat) (hx : x < 1073741824) (hb : b < 2) : bits BinOp.or IntKind.i64 ((x : Int) * 2) (b : Int) = ((2 * x + b : Nat) : Int) := by
  have e : (x : Int) * 2 = ((2 * x : Nat) : Int) := by omega
  rw [e]
  show IntKind.i64.wrap ((BitVec.ofInt 64 ((2 * x : Nat) : Int) ||| BitVec.ofInt 64 (b : Int)).toNat : Int) = _
  have h : 2 * x ||| b = 2 * x + b := by
    have h := nat_join 1 (2 * x) b (by omega) (by omega)
    exact h
  rw [BitVec.toNat_or, BitVec.ofInt_natCast, BitVec.ofInt_natCast, BitVec.toNat_ofNat, BitVec.toNat_ofNat, Nat.mod_eq_of_lt (show 2 * x < 2 ^ 64 by omega), Nat.mod_eq_of_lt (show b < 2 ^ 64 by omega), h, IntKind.wrap_i64]
  omega

/-- What next answers. -/
def nxV : Nx → Nat × Nat
  | .hit i => (i, 0)
  | .short => (0, 10)
  | .code => (0, 90)
def NxPost (w : World) (p : Nat) (s : ByteArray) (at' : Nat) (l : List Nat) (x : Nx) (e : Ending) (w' : World) : Prop :=
  e = .returned (.tuple #[.int .i64 (nxV x).1, .int .i64 (nxV x).2]) ∧ (∀ i, x = .hit i → IsR p w' p s (at' + l.getD i 0)) ∧ Step p [p] [] w w'

set_option maxRecDepth 100000 in
theorem apart_types {w : World} {g p : Nat} {t u : TypeId} {cs ds : Array Value} (h : Blk w g t cs) (k : Blk w p u ds) (hne : t ≠ u) : g ≠ p := by
  rintro rfl
  unfold Blk at h k
  rw [h] at k
  simp only [Option.some.injEq, Obj.cells.injEq] at k
  exact hne k.2.1
set_option maxRecDepth 100000 in
theorem apart_row {w : World} {B g c n p : Nat} {f : Nat → Nat} {u : TypeId} {ds : Array Value} (h : FRow w B g c n f) (k : Blk w p u ds) (hne : (3 : TypeId) ≠ u) : g ≠ p := by
  rintro rfl
  rcases h.2 with ⟨h1, h2⟩ | ⟨g', cap, cur, hv, hB, hh, r⟩
  · cases h1
  · simp only [Value.slice.injEq, Option.some.injEq, Addr.mk.injEq] at hv
    have hg : g' = g := hv.1.1.symm
    rw [hg] at hh
    unfold Blk at k
    rw [hh] at k
    simp only [Option.some.injEq, Obj.cells.injEq] at k
    exact hne k.2.1
set_option maxRecDepth 100000 in
theorem FRow.step {w w' : World} {B gs C p k : Nat} {n : Nat} {F : Nat → Nat} {ts : List TypeId} {u : TypeId} {ds : Array Value} (h : FRow w B gs k n F) (hs : Step C [p] ts w w') (hp : Blk w p u ds) (h3 : (3 : TypeId) ≠ u) (t3 : (3 : TypeId) ∉ ts) : FRow w' B gs k n F := by
  have n2 := apart_row h hp h3
  exact hs.row h (fun k hk => by
    have e : k = gs := by simpa [Value.ownBlock] using hk.symm
    rw [e]
    simpa using n2) t3
set_option maxRecDepth 100000 in
theorem TabIs.steps {w w' : World} {g p C : Nat} {A : Option Addr} {n c : Nat} {l : List Nat} {ts : List TypeId} {u : TypeId} {ds : Array Value} (h : TabIs w g A n c l) (hs : Step C [p] ts w w') (hp : Blk w p u ds) (h3 : (3 : TypeId) ≠ u) (h57 : (130 : TypeId) ≠ u) (t3 : (3 : TypeId) ∉ ts) (t57 : (130 : TypeId) ∉ ts) : TabIs w' g A n c l := by
  obtain ⟨gs, F, B, h1, h2, h4⟩ := h
  have n1 := apart_types h1 hp h57
  exact ⟨gs, F, B, hs.blk h1 (by simpa using n1) t57, h2.step hs hp h3 t3, h4⟩
theorem TabIs.step {w w' : World} {g p C : Nat} {A : Option Addr} {n c : Nat} {l : List Nat} {ds : Array Value} (h : TabIs w g A n c l) (hs : Step C [p] [] w w') (hp : Blk w p 115 ds) : TabIs w' g A n c l :=
  h.steps hs hp (by decide) (by decide) List.not_mem_nil List.not_mem_nil
theorem TabIs.drewN {w : World} {g : Nat} {A : Option Addr} {n c : Nat} {l : List Nat} (h : TabIs w g A n c l) (d : Nat) : TabIs (w.drewN d) g A n c l := h

theorem IsR.drewN {B : Nat} {w : World} {p : Nat} {s : ByteArray} {n : Nat} (h : IsR B w p s n) (d : Nat) : IsR B (w.drewN d) p s n := ⟨h.lo, h.blk⟩

set_option maxHeartbeats 3200000 in
set_option maxRecDepth 100000 in
theorem cnext_any (w : World) (g p : Nat) (A : Option Addr) (n c : Nat) (L : List Int) (s : ByteArray) (at' : Nat) (hT : TabIs w g A n c (nl L)) (hln : L.length = n) (hok : LenOk L) (hR : IsR p w p s at') (hs : s.size ≤ 281474976710656) (hat : at' ≤ 8 * s.size) :
    Calls Tryz.prog 115 #[.pointer (some ⟨g, 0, none⟩), .pointer (some ⟨p, 0, none⟩)] w (NxPost w p s at' (nl L) (nextL (nl L) ((bitsB s.data.toList).drop at'))) := by
  have hn2 : n ≤ 258 := by have := hok.2.1; omega
  have hfit := fits_of hok
  obtain ⟨l, hl⟩ : ∃ l, l = nl L := ⟨_, rfl⟩
  have hll : l.length = n := by rw [hl, nl_length, hln]
  rw [← hl] at hfit hT ⊢
  obtain ⟨Bs, hBs⟩ : ∃ Bs, Bs = bitsB s.data.toList := ⟨_, rfl⟩
  obtain ⟨bs, hbs⟩ : ∃ bs, bs = Bs.drop at' := ⟨_, rfl⟩
  rw [← hBs, ← hbs]
  have hBl : Bs.length = 8 * s.size := by rw [hBs, bitsB_length]; rfl
  have hbl : bs.length = 8 * s.size - at' := by rw [hbs, List.length_drop, hBl]
  have hb01 : Bit01 bs := by rw [hbs, hBs]; exact (bit01_bitsB _).drop _
  have hB01 : Bit01 Bs := by rw [hBs]; exact bit01_bitsB _
  have HF := Lib.hid hfit
  have HLL := Lib.hid hll
  have HBL := Lib.hid hbl
  have HBS := Lib.hid hbs
  have HBSS := Lib.hid hBs
  have HB01 := Lib.hid hb01
  have HBB := Lib.hid hB01
  have HBLL := Lib.hid hBl
  have HR := Lib.hid hR
  have HT := Lib.hid hT
  have HP : Hid (∀ (x : Nx) (w' : World), nextL l bs = x → (∀ i, x = .hit i → IsR p w' p s (at' + l.getD i 0)) → Step p [p] [] w w' → NxPost w p s at' l (nextL l bs) (.returned (.tuple #[.int .i64 (nxV x).1, .int .i64 (nxV x).2])) w') := Lib.hid fun x w' h h2 h3 => ⟨by rw [h], by rw [h]; exact h2, h3⟩
  generalize NxPost w p s at' l (nextL l bs) = PO at *
  clear hT hR hok hln hl hfit hll hBs hbs hBl hbl hb01 hB01
  go_enter Tryz.func115, Tryz.ntmps115
  go_wp2_with fail
  go_loopw [6, 7] (fun cv kv wx => ∃ k x : Nat, 1 ≤ k ∧ k ≤ 20 ∧ kv = .int .i64 k ∧ cv = .int .i64 x ∧ Hid (k - 1 ≤ bs.length ∧ x = val (bs.take (k - 1))) ∧ Hid (Clear l bs k) ∧ Hid (nextL l bs = nextF l bs (21 - k) k) ∧ IsR p wx p s (at' + (k - 1)) ∧ TabIs wx g A n c l ∧ Step p [p] [] w wx) (fun _ kv _ => 22 - (intOf kv).toNat)
  case atStart => exact ⟨1, 0, Nat.le_refl _, by omega, rfl, rfl, Lib.hid ⟨Nat.zero_le _, by simp [val]⟩, Lib.hid (fun k h1 h2 => by omega), Lib.hid rfl, HR.out, HT.out, Step.refl _ _ _ _⟩
  case round =>
    obtain ⟨k, x, hk1, hk20, rfl, rfl, hx, hclear, hnx, hR, hT, hS⟩ := hrel
    have HR1 := Lib.hid hR
    have HT1 := Lib.hid hT
    have HS1 := Lib.hid hS
    have hnx2 := hnx.out
    rw [show 21 - k = (20 - k) + 1 by omega] at hnx2
    by_cases es : bs.length < k
    · rw [nextF_short es] at hnx2
      have HTK := Lib.hid (take_short p wr p s (at' + (k - 1)) 1 hR hs (by omega) (by have := hx.out.1; have := HBL.out; omega) (by have := hx.out.1; have := HBL.out; omega))
      have HNX := Lib.hid hnx2
      clear hnx2 hnx hclear hR hT hS
      go_wp2_with fail
      refine HTK.out.mono ?_
      rintro e w3 ⟨rfl, hR3, hS3⟩
      have HPE := Lib.hid (HP.out _ w3 HNX.out (fun i h => by cases h) (HS1.out.trans hS3))
      clear hR3 hS3
      go_wp2_with fail
      first | exact HPE.out | (go_ret2; exact HPE.out)
    · have HTK := Lib.hid (take_ok p wr p s (at' + (k - 1)) 1 hR hs (by omega) (by have := HBL.out; omega))
      obtain ⟨b, hb⟩ : ∃ b, b = Bs.getD (at' + (k - 1)) 0 := ⟨_, rfl⟩
      have hb2 : b < 2 := by rw [hb]; exact bit_lt _ _ HBB.out
      have hv1 : val (((bitsB s.data.toList).drop (at' + (k - 1))).take 1) = b := by
        have h := val_next Bs (at' + (k - 1)) 0 (by rw [HBLL.out]; have := HBL.out; omega)
        rw [← HBSS.out]
        rw [Nat.zero_add] at h
        rw [h, hb, Nat.add_zero]
        simp [val]
      rw [hv1] at HTK
      obtain ⟨v, hv⟩ : ∃ v, v = 2 * x + b := ⟨_, rfl⟩
      have hvv : v = val (bs.take k) := by
        have h := val_next Bs at' (k - 1) (by rw [HBLL.out]; have := HBL.out; omega)
        rw [← HBS.out, show k - 1 + 1 = k by omega] at h
        rw [h, ← hx.out.2, hv, hb]
      have htl : (bs.take k).length = k := by rw [List.length_take]; omega
      have hvlt : v < 2 ^ k := by
        have h := val_lt _ (HB01.out.take k)
        rw [htl] at h
        rw [hvv]
        exact h
      have hvb : v < 2097152 := by
        have h3 : 2 ^ k ≤ 2 ^ 20 := Nat.pow_le_pow_right (by decide) hk20
        have h4 : (2 : Nat) ^ 20 = 1048576 := by decide
        omega
      have hor := orI_bit x b (by omega) hb2
      rw [← hv] at hor
      have hxb : x < 2097152 := by omega
      have HVV := Lib.hid hvv
      have HVL := Lib.hid hvlt
      have HES := Lib.hid es
      have HNX := Lib.hid hnx2
      clear hnx2 hnx hv1 hv hvv htl hvlt es hb hT hS hR
      go_wp2_with fail
      refine HTK.out.mono ?_
      rintro e w3 ⟨rfl, hR3, hS3⟩
      have hS4 := HS1.out.trans hS3
      have hT4 := HT1.out.step hS3 HR1.out.blk
      have HR4 := Lib.hid hR3
      have HS4 := Lib.hid hS4
      have HT4 := Lib.hid hT4
      have HBG := Lib.hid (cbegins_any w3 g A n c l hT4 HF.out v k hk20 HVL.out)
      clear hR3 hS3 hS4 hT4 HTK HR1 HT1 HS1
      by_cases eb : v * pw k < sumP l
      · rw [decide_eq_true eb] at HBG
        have HEB := Lib.hid eb
        clear eb
        go_wp2_with fail
        refine HBG.out.mono ?_
        rintro e w5 ⟨rfl, d, rfl⟩
        have HR5 : Hid (IsR p (w3.drewN d) p s (at' + (k - 1) + 1)) := Lib.hid (HR4.out.drewN d)
        have HT5 := Lib.hid (HT4.out.drewN d)
        have HS5 := Lib.hid (HS4.out.drewN d)
        generalize w3.drewN d = w5 at *
        clear HR4 HT4 HS4 HBG
        obtain ⟨gs, F, B, hbk, hrow, hsym⟩ := HT5.out
        have hvs : val (bs.take k) * pw k < sumP l := by rw [← HVV.out]; exact HEB.out
        have hfl := first_le HF.out HB01.out (n := k) (by have := HES.out; omega) hk20 hclear.out hvs
        rw [← HVV.out] at hfl
        obtain ⟨f, hf⟩ : ∃ f, f = cd l k 0 := ⟨_, rfl⟩
        obtain ⟨m, hm⟩ : ∃ m, m = cntL l k := ⟨_, rfl⟩
        have q1 := (blk_cell hbk (22 + k)).trans (tb_first _ _ _ _ _ k (by omega))
        have q2 := (blk_cell hbk (1 + k)).trans (tb_cnt _ _ _ _ _ k (by omega))
        rw [← hf] at q1 hfl
        rw [← hm] at q2
        obtain ⟨j, hj⟩ : ∃ j, j = v - f := ⟨_, rfl⟩
        have hjI : (v : Int) - (f : Int) = (j : Int) := by omega
        have hmb := cnt_le l k
        rw [HLL.out, ← hm] at hmb
        have hk21 : (k : Int) < 21 := by omega
        have HN := Lib.hid HNX.out
        by_cases ej : j < m
        · have dj : decide ((j : Int) < (m : Int)) = true := decide_eq_true (by omega)
          have hat := at_row HF.out (F := F) (by rw [HLL.out]; exact hsym) (n := k) (v := v) (by rw [← hf]; exact hfl) (by rw [← hf, ← hm, ← hj]; exact ej)
          rw [← hf, ← hj, HLL.out] at hat
          have q3 := (blk_cell hbk (43 + k)).trans (tb_place _ _ _ _ _ k (by omega))
          have q4 := (blk_cell hbk 64).trans (tb_last _ _ _ _ _)
          obtain ⟨q, hq⟩ : ∃ q, q = plcL l k := ⟨_, rfl⟩
          rw [← hq] at hat q3
          obtain ⟨i, hi⟩ : ∃ i, i = q + j := ⟨_, rfl⟩
          rw [← hi] at hat
          have hin := hat.1
          have hiI : (q : Int) + (j : Int) = (i : Int) := by omega
          have q5 := hrow.cell i hin
          obtain ⟨y, hy⟩ : ∃ y, y = F i := ⟨_, rfl⟩
          rw [← hy] at q5 hat
          have hhit := HN.out
          have h2 := hat.2
          rw [HVV.out] at h2
          rw [nextF_at HES.out h2] at hhit
          have hylen := (isAt_is h2).2.1
          have HPE := Lib.hid fun d => HP.out _ (w5.drewN d) hhit (fun i' h' => by
            have e : y = i' := by injection h'
            rw [← e, hylen, show at' + k = at' + (k - 1) + 1 by omega]
            exact HR5.out.drewN d) (HS5.out.drewN d)
          have w1' : IntKind.i64.wrap (i : Int) = (i : Int) := by rw [IntKind.wrap_i64]; omega
          have HYL := Lib.hid hylen
          clear hbk hrow hsym hvs hfl hf hm hj hmb hat hq hi hy hhit h2 hylen HP HN HNX hclear
          go_upto_region 12 with fail
          go_quiet (fail)
          go_wp2_with fail
          first | exact HPE.out _ | (go_ret2; exact HPE.out _)
        · have dj : decide ((j : Int) < (m : Int)) = false := decide_eq_false (by omega)
          have hat : isAt l k v = none := at_none (by rw [← hm, ← hf, ← hj]; omega)
          rw [HVV.out] at hat
          have hn := HN.out
          rw [nextF_none HES.out hat, if_pos hvs] at hn
          have hk19 : k < 20 := by
            rcases Nat.lt_or_ge k 20 with h | h
            · exact h
            · exfalso
              obtain ⟨i, hi⟩ := (clear_begin HF.out HB01.out (n := k) (by have := HES.out; omega) hk20 hclear.out).2 hvs
              have h5 := (HF.out.one hi.1).2
              have h6 := hi.2.1
              exact isAt_none hat i (hi.is (by omega))
          have HUP := Lib.hid (hclear.out.up hat)
          have HN3 := Lib.hid hn
          clear hbk hrow hsym hvs hfl hf hm hj hmb hat hn HP HN HNX hclear
          go_wp2_with fail
          go_roundw
          case rel =>
            refine ⟨k + 1, v, by omega, by omega, by go_num, rfl, Lib.hid ⟨by have := HES.out; omega, by rw [HVV.out]; rfl⟩, HUP, Lib.hid (by rw [HN3.out, show 21 - (k + 1) = 20 - k by omega]), ?_, HT5.out, HS5.out⟩
            rw [show at' + (k + 1 - 1) = at' + (k - 1) + 1 by omega]
            exact HR5.out
          case measure => simp [intOf]; omega
      · rw [decide_eq_false eb] at HBG
        have hn := HNX.out
        have hat := at_beyond HF.out eb
        rw [HVV.out] at hat eb
        rw [nextF_none HES.out hat, if_neg eb] at hn
        have HN := Lib.hid hn
        clear hn hat eb
        go_wp2_with fail
        refine HBG.out.mono ?_
        rintro e w5 ⟨rfl, d, rfl⟩
        have HPE := Lib.hid (HP.out _ (w3.drewN d) HN.out (fun i h => by cases h) (HS4.out.drewN d))
        go_wp2_with fail
        first | exact HPE.out | (go_ret2; exact HPE.out)

end Go.Proofs.YtmgmgmbpldboiaaGreat
namespace Go.Proofs.YtmgmgmbpldboiaaGreat
open Go.RowKit

/-- A table stored where there was none. -/
theorem tab_stored (w : World) (T : Array Value) (hs : T.size = 65) (h1 : T.all (·.oneCell') = true) : (storeCells ⟨w.heap.size, 0, none⟩ T.toList 0).run Tryz.prog (w.alloc (.cells tb0 130)) = .ok () ((w.alloc (.cells tb0 130)).setRow w.heap.size T) ∧
    Blk ((w.alloc (.cells tb0 130)).setRow w.heap.size T) w.heap.size 130 T ∧ Below w.heap.size w ((w.alloc (.cells tb0 130)).setRow w.heap.size T) := by
  refine ⟨store_cells_row (blk_new w 130 tb0) (by rw [hs]; exact zeroTb.2) (by rw [tb0_size, hs]) h1, setRow_heap _ _ _ _ _ _ (blk_new w 130 tb0), ?_⟩
  exact below_setRow ((Below.refl _ _).alloc (Nat.le_refl _) _) (Nat.le_refl _) _
/-- The table of lengths, stored. -/
theorem tab_is (w w2 : World) (A : Option Addr) (n c g B : Nat) (l : List Nat) (F : Nat → Nat) (T : Array Value) (hT : T = tb (.slice A n c) (cntL l) (fun k => cd l k 0) (plcL l) (.slice (some ⟨g, 0, none⟩) n n)) (hk : Blk w2 w.heap.size 130 T) (hb : Below w.heap.size w w2) (hr : FRow w B g n n F) (hs : SymOk l F n) : TabIs w2 w.heap.size A n c l := by
  subst hT
  exact ⟨g, F, B, hk, hr.below hb hr.lt.2, hs⟩

end Go.Proofs.YtmgmgmbpldboiaaGreat
namespace Go.Proofs.YtmgmgmbpldboiaaGreat
open Go.RowKit


theorem allF_more (l bs : List Nat) (en : Int) (k a : Nat) (o : List Nat) : allF l bs en (k + 1) a o = match nextL l (bs.drop a) with
    | .hit i => if (i : Int) = en then (o ++ [i], a + l.getD i 0, 0) else allF l bs en k (a + l.getD i 0) (o ++ [i])
    | .short => ([], 0, 10)
    | .code => ([], 0, 90) := rfl

end Go.Proofs.YtmgmgmbpldboiaaGreat
namespace Go.Proofs.YtmgmgmbpldboiaaGreat
open Go.RowKit

end Go.Proofs.YtmgmgmbpldboiaaGreat
namespace Go.Proofs.YtmgmgmbpldboiaaGreat
open Go.RowKit

theorem dec_len (s : ByteArray) : (bitsB s.data.toList).length = 8 * s.size := by
  rw [bitsB_length]
  rfl
end Go.Proofs.YtmgmgmbpldboiaaGreat
namespace Go.Proofs.YtmgmgmbpldboiaaGreat
open Go.RowKit

set_option maxRecDepth 100000 in
theorem own_apart {w : World} {B e n p : Nat} {v : Value} {xs : List Value} {u : TypeId} {ds : Array Value} (h : w.ownsRow B e 1 v n xs) (k : Blk w p u ds) (hne : e ≠ u) : ∀ j, v.ownBlock = some j → j ∉ [p] := by
  intro j hj hm
  rw [List.mem_singleton] at hm
  subst hm
  obtain ⟨c1, f1, e1⟩ := Lib.ownsRow_kind h j hj
  unfold Blk at k
  rw [e1] at k
  simp only [Option.some.injEq, Obj.cells.injEq] at k
  exact hne k.2.1

set_option maxHeartbeats 3200000 in
set_option maxRecDepth 100000 in
theorem call_any (w : World) (A : Option Addr) (n c : Nat) (L : List Int) (s : ByteArray) (at' k en : Int) (hL : ZIn w A n L) (hn : n ≤ maxLen) (hs : s.size ≤ 2000000) (_ : -9223372036854775808 ≤ at') (_ : at' ≤ 9223372036854775807) (_ : -9223372036854775808 ≤ k) (_ : k ≤ 9223372036854775807) (_ : -9223372036854775808 ≤ en) (_ : en ≤ 9223372036854775807) :
    Calls Tryz.prog 70 #[.slice A n c, .string s, .int .i64 at', .int .i64 k, .int .i64 en] w (AllPost w (allAns L (bitsB s.data.toList) at' k en)) := by
  have hz := zeroTb.1
  rw [show tb (.slice none 0 0) (fun _ => 0) (fun _ => 0) (fun _ => 0) (.slice none 0 0) = tb0 from rfl] at hz
  have HST := Lib.hid tab_stored
  have HDL := Lib.hid (dec_len s)
  have HP : Hid (∀ (v : Value) (a : List Nat × Nat × Nat) (w' : World), allAns L (bitsB s.data.toList) at' k en = a → w'.ownsRow w.heap.size 3 1 v a.1.length (a.1.map iv) → Below w.heap.size w w' → AllPost w (allAns L (bitsB s.data.toList) at' k en) (.returned (.tuple #[v, .int .i64 a.2.1, .int .i64 a.2.2])) w') := Lib.hid fun v a w' h1 h2 h3 => ⟨v, by rw [h1], by rw [h1]; exact h2, h3⟩
  by_cases h : LenOk L
  · have HT := Lib.hid (tableOf_yes w A n c L hL hn h)
    have hans : allAns L (bitsB s.data.toList) at' k en = (if at' < 0 ∨ (8 * (s.size : Int)) < at' ∨ k < 0 then ([], 0, 2) else allF (nl L) (bitsB s.data.toList) en k.toNat at'.toNat []) := by
      rw [allAns, if_pos h, HDL.out]
      rfl
    generalize AllPost w (allAns L (bitsB s.data.toList) at' k en) = PO at *
    generalize allAns L (bitsB s.data.toList) at' k en = ans at *
    have HO := Lib.hid tb0_size
    have HLN := Lib.hid hL.1
    have HK := Lib.hid h
    have HTS := Lib.hid fun (K F P : Nat → Nat) (s4 : Value) => tb_size (.slice A n c) K F P s4
    have HIS := Lib.hid tab_is
    have HANS := Lib.hid hans
    obtain ⟨i3, h3, hz0, hz1, hz2⟩ := info_parts Tryz.info3
    clear hL h hans
    go_enter Tryz.func70, Tryz.ntmps70
    generalize tb0 = Z at *
    go_wp2_with fail
    refine HT.out.mono ?_
    rintro e w2 ⟨g, F, rfl, hrow, hsym, hb⟩
    obtain ⟨T9, hT9⟩ : ∃ T9, T9 = tb (.slice A n c) (cntL (nl L)) (fun k => cd (nl L) k 0) (plcL (nl L)) (.slice (some ⟨g, 0, none⟩) n n) := ⟨_, rfl⟩
    have hs9 : T9.size = 65 := by rw [hT9, HTS.out]
    have ho9 : T9.all (·.oneCell') = true := by rw [hT9]; exact tb_one _ _ _ _ _ rfl rfl
    obtain ⟨hst, hk3, hb3⟩ := HST.out w2 T9 hs9 ho9
    have hT3 := HIS.out w2 _ A n c g _ _ F T9 hT9 hk3 hb3 hrow hsym
    have HB3 := Lib.hid (hb.trans (hb3.mono hb.size))
    have HT3 := Lib.hid hT3
    rw [← hT9]
    clear hT9 ho9 hk3 hb3 hT3 hrow hsym hb HT
    go_upto_region 2 with fail
    generalize (w2.alloc (.cells Z 130)).setRow w2.heap.size T9 = w3 at *
    generalize w2.heap.size = g2 at *
    clear hst hz
    by_cases hbad : at' < 0 ∨ (8 * (s.size : Int)) < at'
    · have HNR := Lib.hid (newR_none w3 s at' (by omega) hbad)
      have ha := HANS.out
      rw [if_pos (by omega)] at ha
      have HPE := Lib.hid (HP.out (.slice none 0 0) _ w3 ha (World.ownsRow_nil _ _ _ _) HB3.out)
      clear ha hbad
      go_wp2_with fail
      refine HNR.out.mono ?_
      rintro e w4 ⟨rfl, rfl⟩
      go_wp2_with fail
      first | exact HPE.out | (go_ret3; exact HPE.out)
    · obtain ⟨a0, rfl⟩ : ∃ a0 : Nat, at' = a0 := ⟨at'.toNat, by omega⟩
      have ha8 : a0 ≤ 8 * s.size := by omega
      have HNR := Lib.hid (newR_yes w3 s a0 (by omega) (by omega) (by omega))
      by_cases hk0 : k < 0
      · have dk : decide (k < 0) = true := decide_eq_true hk0
        have ha := HANS.out
        rw [if_pos (by omega)] at ha
        have HA := Lib.hid ha
        clear ha hbad HANS
        go_wp2_with fail
        refine HNR.out.mono ?_
        rintro e w4 ⟨rfl, hw4⟩
        have hb4 : Below w3.heap.size w3 w4 := by rw [hw4]; exact (Below.refl _ _).alloc (Nat.le_refl _) _
        have HPE := Lib.hid (HP.out (.slice none 0 0) _ w4 HA.out (World.ownsRow_nil _ _ _ _) (HB3.out.trans (hb4.mono HB3.out.size)))
        clear hw4 hb4
        go_wp2_with fail
        first | exact HPE.out | (go_ret3; exact HPE.out)
      · obtain ⟨k0, rfl⟩ : ∃ k0 : Nat, k = k0 := ⟨k.toNat, by omega⟩
        have dk : decide ((k0 : Int) < 0) = false := decide_eq_false hk0
        have ha := HANS.out
        rw [if_neg (by omega), Int.toNat_natCast, Int.toNat_natCast] at ha
        have HA := Lib.hid ha
        have hk0b : k0 ≤ 9223372036854775807 := by omega
        clear ha hbad HANS hk0
        go_wp2_with fail
        refine HNR.out.mono ?_
        rintro e w4 ⟨rfl, hw4⟩
        have hb4 : Below w3.heap.size w3 w4 := by rw [hw4]; exact (Below.refl _ _).alloc (Nat.le_refl _) _
        have hR4 : IsR w3.heap.size w4 w3.heap.size s a0 := by rw [hw4]; exact isR_new w3 _ (Nat.le_refl _) s a0
        have hlt4 : w3.heap.size < w4.heap.size := by rw [hw4]; simp
        have HB4 := Lib.hid hb4
        have HR4 := Lib.hid hR4
        have HNX := Lib.hid cnext_any
        clear hw4 hb4 hR4 HNR
        obtain ⟨l, hl⟩ : ∃ l, l = nl L := ⟨_, rfl⟩
        rw [← hl] at HA
        have HL := Lib.hid hl
        have HFIT : Hid (Fits l) := Lib.hid (by rw [hl]; exact fits_of HK.out)
        obtain ⟨bs, hbs⟩ : ∃ bs, bs = bitsB s.data.toList := ⟨_, rfl⟩
        rw [← hbs] at HA
        have HBS := Lib.hid hbs
        have HBL : Hid (bs.length = 8 * s.size) := Lib.hid (by rw [hbs]; exact HDL.out)
        clear hl hbs
        obtain ⟨p, hp⟩ : ∃ p, p = w3.heap.size := ⟨_, rfl⟩
        rw [← hp] at HR4 hlt4 ⊢
        have HPS := Lib.hid hp
        clear hp
        go_wp2_with fail
        go_loopw [16, 17, 18] (fun lv sv ev wx => ∃ (a : Nat) (o : List Nat), a ≤ 8 * s.size ∧ o.length ≤ k0 ∧ o.length ≤ a ∧ Hid (ans = allF l bs en (k0 - o.length) a o) ∧ wx.ownsRow p 3 1 lv o.length (o.map iv) ∧ IsR p wx p s a ∧ Below w3.heap.size w3 wx ∧ p < wx.heap.size) (fun lv _ _ wx => k0 - (match lv with | .slice _ n _ => n | _ => 0))
        case atStart => exact ⟨a0, [], ha8, Nat.zero_le _, Nat.zero_le _, HA, World.ownsRow_nil _ _ _ _, HR4.out, HB4.out, hlt4⟩
        case round =>
          obtain ⟨a, o, ha, hol, hoa, hrel2, hown, hR, hb, hlt⟩ := hrel
          obtain ⟨A0, c5, rfl, hn0, hm0, hA0⟩ := own_slice hown
          clear hA0
          unfold maxLen at hm0
          have HOW := Lib.hid hown
          have HR := Lib.hid hR
          have HB := Lib.hid hb
          have HNX2 := Lib.hid (HNX.out wr g2 p A n c L s a (HT3.out.below hb) HLN.out HK.out hR (by omega) ha)
          rw [← HL.out, ← HBS.out] at HNX2
          obtain ⟨N, hN⟩ : ∃ N, N = o.length := ⟨_, rfl⟩
          have HN := Lib.hid hN
          rw [← hN] at hol hoa hn0 ⊢
          by_cases e : N < k0
          · have d3 : decide ((N : Int) < (k0 : Int)) = true := decide_eq_true (by omega)
            have hstep := hrel2.out
            rw [← hN, show k0 - N = (k0 - N - 1) + 1 by omega, allF_more] at hstep
            cases hx : nextL l (bs.drop a) with
            | hit i =>
              rw [hx] at hstep HNX2
              have his := nextF_is 20 1 (show nextF l (bs.drop a) 20 1 = .hit i from hx)
              have hin := his.2.1
              have hone := HFIT.out.one hin
              have hil : l.length ≤ 258 := by
                have := HK.out.2.1
                rw [HL.out, nl_length]
                exact this
              have hle : a + l.getD i 0 ≤ 8 * s.size := by
                have := his.1
                rw [List.length_drop, HBL.out] at this
                omega
              obtain ⟨a2, ha2⟩ : ∃ a2, a2 = a + l.getD i 0 := ⟨_, rfl⟩
              have hst2 : ans = if (i : Int) = en then (o ++ [i], a2, 0) else allF l bs en (k0 - N - 1) a2 (o ++ [i]) := by rw [hstep, ha2]
              have HST2 := Lib.hid hst2
              rw [← ha2] at hle
              have ha3 : a < a2 := by omega
              have hib : i < 258 := by omega
              have HA2 := Lib.hid ha2
              obtain ⟨X, hX⟩ : ∃ X, X = o.map iv := ⟨_, rfl⟩
              rw [← hX, ← hN] at HOW
              have HX := Lib.hid hX
              clear hstep hst2 his hin hone hil hrel2 hown hb hX hN ha2
              go_wp2_with fail
              refine HNX2.out.mono ?_
              rintro e w5 ⟨rfl, hR5, hS5⟩
              have hR5' := hR5 i rfl
              rw [← HA2.out] at hR5'
              have HR5 := Lib.hid hR5'
              have HB5 := Lib.hid (HB.out.trans (by rw [← HPS.out]; exact hS5.below))
              have HO3 : Hid (w5.ownsRow p 3 1 (.slice A0 N c5) N X) := Lib.hid (hS5.row HOW.out (own_apart HOW.out HR.out.blk (by decide)) List.not_mem_nil)
              have hlt5 : p < w5.heap.size := Nat.lt_of_lt_of_le hlt hS5.size
              clear hR5 hR5' hS5 hR hx HNX2
              simp only [nxV]
              go_wp2_with (at_builtin; refine wpList_append_own _ rfl _ _ 22 rfl p 3 i3 (.int .i64 0) 1 8 Tryz.underlying22 h3 hz0 hz1 hz2 rfl (by decide) _ _ _ rfl (HO3.out.alloc _) ⟨w5.heap.size, 0, none⟩ 1 1 [.int .i64 i] rfl rfl ?c1 ?c2 ?c3 ?c4 ?c5 ?_)
              case c1 => exact cell_one _ _ _
              case c2 => intro u hu; simp at hu; subst hu; rfl
              case c3 => unfold maxLen; omega
              case c4 => omega
              case c5 => simp; omega
              intro v6 w6 hown6 hgrow6 _
              have hb6 : Below w3.heap.size w3 w6 := (HB5.out.alloc (by have := HB5.out.size; exact this) _).grown hgrow6 (by simp; have := HPS.out; omega) (fun k hk => by have := (HO3.out.lt k hk).1; have := HPS.out; omega)
              have hR6 : IsR p w6 p s a2 := ⟨Nat.le_refl _, blk_grown HR5.out.blk HO3.out (by decide) hgrow6⟩
              have hsz6 : p < w6.heap.size := Nat.lt_of_lt_of_le hlt5 (by have := hgrow6.size; simp at this; omega)
              obtain ⟨A6, c6, rfl, hn6, hm6, _⟩ := own_slice hown6
              have HO6 := Lib.hid hown6
              have HB6 := Lib.hid hb6
              have HR6 := Lib.hid hR6
              have HSZ6 := Lib.hid hsz6
              clear hown6 hgrow6 hb6 hR6 hsz6
              by_cases een : (i : Int) = en
              · have d4 : ((i : Int) == en) = true := by rw [een]; exact beq_self_eq_true _
                have hans2 := HST2.out
                rw [if_pos een] at hans2
                have c0 : w6.cell? ⟨p, 0, none⟩ = some (.bool true) := blk_cell HR6.out.blk 0
                have c2 : w6.cell? ⟨p, 2, none⟩ = some (.int .i64 (a2 : Nat)) := blk_cell HR6.out.blk 2
                have HAT := Lib.hid (rat_yes w6 p (a2 : Nat) c0 c2)
                have hpe := HP.out (.slice A6 (N + 1) c6) (o ++ [i], a2, 0) w6 hans2 (by
                  rw [List.length_append, ← HN.out, List.map_append, ← HX.out]
                  exact World.ownsRow.mono HO6.out (by rw [HPS.out]; exact HB3.out.size)) (HB3.out.trans (HB6.out.mono HB3.out.size))
                have HPE := Lib.hid hpe
                subst een
                clear hans2 c0 c2 hpe HST2 HP HA
                go_wp2_with fail
                refine HAT.out.mono ?_
                rintro e w7 ⟨rfl, rfl⟩
                go_wp2_with fail
                first | exact HPE.out | (go_ret3; exact HPE.out)
              · have d4 : ((i : Int) == en) = false := by
                  rw [beq_eq_false_iff_ne]
                  exact een
                have hans2 := HST2.out
                rw [if_neg een] at hans2
                have HA3 := Lib.hid hans2
                clear hans2 HST2 een
                go_wp2_with fail
                go_roundw
                case rel =>
                  refine ⟨a2, o ++ [i], hle, by rw [List.length_append, ← HN.out]; show N + 1 ≤ k0; omega, by rw [List.length_append, ← HN.out]; show N + 1 ≤ a2; omega, Lib.hid ?_, ?_, HR6.out, HB6.out, HSZ6.out⟩
                  · rw [List.length_append, ← HN.out, show k0 - (N + [i].length) = k0 - N - 1 by simp; omega]
                    exact HA3.out
                  · rw [List.length_append, ← HN.out, List.map_append, ← HX.out]
                    exact HO6.out
                case measure => simp; omega
            | short =>
              rw [hx] at hstep HNX2
              have HST2 := Lib.hid hstep
              clear hstep hx hrel2 hown hb hR hN
              go_wp2_with fail
              refine HNX2.out.mono ?_
              rintro e w5 ⟨rfl, hR5, hS5⟩
              have HPE := Lib.hid (HP.out (.slice none 0 0) _ w5 HST2.out (World.ownsRow_nil _ _ _ _) (HB3.out.trans ((HB.out.trans (by rw [← HPS.out]; exact hS5.below)).mono HB3.out.size)))
              clear hR5 hS5 HNX2
              simp only [nxV]
              go_wp2_with fail
              first | exact HPE.out | (go_ret3; exact HPE.out)
            | code =>
              rw [hx] at hstep HNX2
              have HST2 := Lib.hid hstep
              clear hstep hx hrel2 hown hb hR hN
              go_wp2_with fail
              refine HNX2.out.mono ?_
              rintro e w5 ⟨rfl, hR5, hS5⟩
              have HPE := Lib.hid (HP.out (.slice none 0 0) _ w5 HST2.out (World.ownsRow_nil _ _ _ _) (HB3.out.trans ((HB.out.trans (by rw [← HPS.out]; exact hS5.below)).mono HB3.out.size)))
              clear hR5 hS5 HNX2
              simp only [nxV]
              go_wp2_with fail
              first | exact HPE.out | (go_ret3; exact HPE.out)
          · have d3 : decide ((N : Int) < (k0 : Int)) = false := decide_eq_false (by omega)
            have hend := hrel2.out
            rw [← hN, show k0 - N = 0 by omega] at hend
            have hend2 : ans = (o, a, 0) := hend
            have hpe := HP.out (.slice A0 o.length c5) (o, a, 0) wr hend2 (World.ownsRow.mono HOW.out (by rw [HPS.out]; exact HB3.out.size)) (HB3.out.trans (HB.out.mono HB3.out.size))
            rw [← hN] at hpe
            have HPE := Lib.hid hpe
            have c0 : wr.cell? ⟨p, 0, none⟩ = some (.bool true) := blk_cell HR.out.blk 0
            have c2 : wr.cell? ⟨p, 2, none⟩ = some (.int .i64 (a : Nat)) := blk_cell HR.out.blk 2
            have HAT := Lib.hid (rat_yes wr p (a : Nat) c0 c2)
            clear hend hend2 hpe hrel2 hown hb hR hN c0 c2
            go_wp2_with fail
            refine HAT.out.mono ?_
            rintro e w7 ⟨rfl, rfl⟩
            go_wp2_with fail
            first | exact HPE.out | (go_ret3; exact HPE.out)
  · have HT := Lib.hid (tableOf_no w A n c L hL hn h)
    have hans : allAns L (bitsB s.data.toList) at' k en = ([], 0, 80) := by rw [allAns, if_neg h]
    generalize AllPost w (allAns L (bitsB s.data.toList) at' k en) = PO at *
    generalize allAns L (bitsB s.data.toList) at' k en = ans at *
    have HO := Lib.hid tb0_size
    have HONE := Lib.hid tb0_one
    have HANS := Lib.hid hans
    clear hL h hans
    go_enter Tryz.func70, Tryz.ntmps70
    generalize tb0 = Z at *
    go_wp2_with fail
    refine HT.out.mono ?_
    rintro e w2 ⟨rfl, hb⟩
    have hs9 : Z.size = 65 := HO.out
    obtain ⟨hst, hk3, hb3⟩ := HST.out w2 Z hs9 HONE.out
    have HPE := Lib.hid (HP.out (.slice none 0 0) _ _ HANS.out (World.ownsRow_nil _ _ _ _) (hb.trans (hb3.mono hb.size)))
    clear hk3 hb3 hb HT
    go_wp2_with fail
    first | exact HPE.out | (go_ret3; exact HPE.out)

end Go.Proofs.YtmgmgmbpldboiaaGreat
