/- Xg Xh Oj Ok Xj: texts laid together, what is not used left out. -/
import Derived.Test.YtmgmgmbpldboiaaZ33
import Derived.Test.YtmgmgmbpldboiaaZ12
import Derived.Test.YtmgmgmbpldboiaaZ24
import Derived.Test.YtmgmgmbpldboiaaZ08
namespace Go.Proofs.Ytmgmgmbpldboiaa
open Go.RowKit

theorem orI_bit (x b : Nat) (hx : x < 1073741824) (hb : b < 2) : bits BinOp.or IntKind.i64 ((x : Int) * 2) (b : Int) = ((2 * x + b : Nat) : Int) := by
  have e : (x : Int) * 2 = ((2 * x : Nat) : Int) := by omega
  rw [e]
  show IntKind.i64.wrap ((BitVec.ofInt 64 ((2 * x : Nat) : Int) ||| BitVec.ofInt 64 (b : Int)).toNat : Int) = _
  have h : 2 * x ||| b = 2 * x + b := by
    have h := nat_join 1 (2 * x) b (by omega) (by omega)
    exact h
  rw [BitVec.toNat_or, BitVec.ofInt_natCast, BitVec.ofInt_natCast, BitVec.toNat_ofNat, BitVec.toNat_ofNat, Nat.mod_eq_of_lt (show 2 * x < 2 ^ 64 by omega), Nat.mod_eq_of_lt (show b < 2 ^ 64 by omega), h, IntKind.wrap_i64]
  omega

/-- What next answers. -/
def nxV : Nx → Nat × Nat
  | .hit i => (i, 0)
  | .short => (0, 10)
  | .code => (0, 90)
def NxPost (w : World) (p : Nat) (s : ByteArray) (at' : Nat) (l : List Nat) (x : Nx) (e : Ending) (w' : World) : Prop :=
  e = .returned (.tuple #[.int .i64 (nxV x).1, .int .i64 (nxV x).2]) ∧ (∀ i, x = .hit i → IsR p w' p s (at' + l.getD i 0)) ∧ Step p [p] [] w w'

set_option maxRecDepth 100000 in
theorem apart_types {w : World} {g p : Nat} {t u : TypeId} {cs ds : Array Value} (h : Blk w g t cs) (k : Blk w p u ds) (hne : t ≠ u) : g ≠ p := by
  rintro rfl
  unfold Blk at h k
  rw [h] at k
  simp only [Option.some.injEq, Obj.cells.injEq] at k
  exact hne k.2.1
set_option maxRecDepth 100000 in
theorem apart_row {w : World} {B g c n p : Nat} {f : Nat → Nat} {u : TypeId} {ds : Array Value} (h : FRow w B g c n f) (k : Blk w p u ds) (hne : (3 : TypeId) ≠ u) : g ≠ p := by
  rintro rfl
  rcases h.2 with ⟨h1, h2⟩ | ⟨g', cap, cur, hv, hB, hh, r⟩
  · cases h1
  · simp only [Value.slice.injEq, Option.some.injEq, Addr.mk.injEq] at hv
    have hg : g' = g := hv.1.1.symm
    rw [hg] at hh
    unfold Blk at k
    rw [hh] at k
    simp only [Option.some.injEq, Obj.cells.injEq] at k
    exact hne k.2.1
set_option maxRecDepth 100000 in
theorem FRow.step {w w' : World} {B gs C p k : Nat} {n : Nat} {F : Nat → Nat} {ts : List TypeId} {u : TypeId} {ds : Array Value} (h : FRow w B gs k n F) (hs : Step C [p] ts w w') (hp : Blk w p u ds) (h3 : (3 : TypeId) ≠ u) (t3 : (3 : TypeId) ∉ ts) : FRow w' B gs k n F := by
  have n2 := apart_row h hp h3
  exact hs.row h (fun k hk => by
    have e : k = gs := by simpa [Value.ownBlock] using hk.symm
    rw [e]
    simpa using n2) t3
set_option maxRecDepth 100000 in
theorem TabIs.steps {w w' : World} {g p C : Nat} {A : Option Addr} {n c : Nat} {l : List Nat} {ts : List TypeId} {u : TypeId} {ds : Array Value} (h : TabIs w g A n c l) (hs : Step C [p] ts w w') (hp : Blk w p u ds) (h3 : (3 : TypeId) ≠ u) (h57 : (98 : TypeId) ≠ u) (t3 : (3 : TypeId) ∉ ts) (t57 : (98 : TypeId) ∉ ts) : TabIs w' g A n c l := by
  obtain ⟨gs, F, B, h1, h2, h4⟩ := h
  have n1 := apart_types h1 hp h57
  exact ⟨gs, F, B, hs.blk h1 (by simpa using n1) t57, h2.step hs hp h3 t3, h4⟩
theorem TabIs.step {w w' : World} {g p C : Nat} {A : Option Addr} {n c : Nat} {l : List Nat} {ds : Array Value} (h : TabIs w g A n c l) (hs : Step C [p] [] w w') (hp : Blk w p 117 ds) : TabIs w' g A n c l :=
  h.steps hs hp (by decide) (by decide) List.not_mem_nil List.not_mem_nil
theorem TabIs.drewN {w : World} {g : Nat} {A : Option Addr} {n c : Nat} {l : List Nat} (h : TabIs w g A n c l) (d : Nat) : TabIs (w.drewN d) g A n c l := h

theorem IsR.drewN {B : Nat} {w : World} {p : Nat} {s : ByteArray} {n : Nat} (h : IsR B w p s n) (d : Nat) : IsR B (w.drewN d) p s n := ⟨h.lo, h.blk⟩

set_option maxHeartbeats 3200000 in
set_option maxRecDepth 100000 in
theorem cnext_any (w : World) (g p : Nat) (A : Option Addr) (n c : Nat) (L : List Int) (s : ByteArray) (at' : Nat) (hT : TabIs w g A n c (nl L)) (hln : L.length = n) (hok : LenOk L) (hR : IsR p w p s at') (hs : s.size ≤ 281474976710656) (hat : at' ≤ 8 * s.size) :
    Calls Try.prog 57 #[.pointer (some ⟨g, 0, none⟩), .pointer (some ⟨p, 0, none⟩)] w (NxPost w p s at' (nl L) (nextL (nl L) ((bitsB s.data.toList).drop at'))) := by
  have hn2 : n ≤ 258 := by have := hok.2.1; omega
  have hfit := fits_of hok
  obtain ⟨l, hl⟩ : ∃ l, l = nl L := ⟨_, rfl⟩
  have hll : l.length = n := by rw [hl, nl_length, hln]
  rw [← hl] at hfit hT ⊢
  obtain ⟨Bs, hBs⟩ : ∃ Bs, Bs = bitsB s.data.toList := ⟨_, rfl⟩
  obtain ⟨bs, hbs⟩ : ∃ bs, bs = Bs.drop at' := ⟨_, rfl⟩
  rw [← hBs, ← hbs]
  have hBl : Bs.length = 8 * s.size := by rw [hBs, bitsB_length]; rfl
  have hbl : bs.length = 8 * s.size - at' := by rw [hbs, List.length_drop, hBl]
  have hb01 : Bit01 bs := by rw [hbs, hBs]; exact (bit01_bitsB _).drop _
  have hB01 : Bit01 Bs := by rw [hBs]; exact bit01_bitsB _
  have HF := Lib.hid hfit
  have HLL := Lib.hid hll
  have HBL := Lib.hid hbl
  have HBS := Lib.hid hbs
  have HBSS := Lib.hid hBs
  have HB01 := Lib.hid hb01
  have HBB := Lib.hid hB01
  have HBLL := Lib.hid hBl
  have HR := Lib.hid hR
  have HT := Lib.hid hT
  have HP : Hid (∀ (x : Nx) (w' : World), nextL l bs = x → (∀ i, x = .hit i → IsR p w' p s (at' + l.getD i 0)) → Step p [p] [] w w' → NxPost w p s at' l (nextL l bs) (.returned (.tuple #[.int .i64 (nxV x).1, .int .i64 (nxV x).2])) w') := Lib.hid fun x w' h h2 h3 => ⟨by rw [h], by rw [h]; exact h2, h3⟩
  generalize NxPost w p s at' l (nextL l bs) = PO at *
  clear hT hR hok hln hl hfit hll hBs hbs hBl hbl hb01 hB01
  go_enter Try.func57, Try.ntmps57
  go_wp2_with fail
  go_loopw [6, 7] (fun cv kv wx => ∃ k x : Nat, 1 ≤ k ∧ k ≤ 20 ∧ kv = .int .i64 k ∧ cv = .int .i64 x ∧ Hid (k - 1 ≤ bs.length ∧ x = val (bs.take (k - 1))) ∧ Hid (Clear l bs k) ∧ Hid (nextL l bs = nextF l bs (21 - k) k) ∧ IsR p wx p s (at' + (k - 1)) ∧ TabIs wx g A n c l ∧ Step p [p] [] w wx) (fun _ kv _ => 22 - (intOf kv).toNat)
  case atStart => exact ⟨1, 0, Nat.le_refl _, by omega, rfl, rfl, Lib.hid ⟨Nat.zero_le _, by simp [val]⟩, Lib.hid (fun k h1 h2 => by omega), Lib.hid rfl, HR.out, HT.out, Step.refl _ _ _ _⟩
  case round =>
    obtain ⟨k, x, hk1, hk20, rfl, rfl, hx, hclear, hnx, hR, hT, hS⟩ := hrel
    have HR1 := Lib.hid hR
    have HT1 := Lib.hid hT
    have HS1 := Lib.hid hS
    have hnx2 := hnx.out
    rw [show 21 - k = (20 - k) + 1 by omega] at hnx2
    by_cases es : bs.length < k
    · rw [nextF_short es] at hnx2
      have HTK := Lib.hid (take_short p wr p s (at' + (k - 1)) 1 hR hs (by omega) (by have := hx.out.1; have := HBL.out; omega) (by have := hx.out.1; have := HBL.out; omega))
      have HNX := Lib.hid hnx2
      clear hnx2 hnx hclear hR hT hS
      go_wp2_with fail
      refine HTK.out.mono ?_
      rintro e w3 ⟨rfl, hR3, hS3⟩
      have HPE := Lib.hid (HP.out _ w3 HNX.out (fun i h => by cases h) (HS1.out.trans hS3))
      clear hR3 hS3
      go_wp2_with fail
      first | exact HPE.out | (go_ret2; exact HPE.out)
    · have HTK := Lib.hid (take_ok p wr p s (at' + (k - 1)) 1 hR hs (by omega) (by have := HBL.out; omega))
      obtain ⟨b, hb⟩ : ∃ b, b = Bs.getD (at' + (k - 1)) 0 := ⟨_, rfl⟩
      have hb2 : b < 2 := by rw [hb]; exact bit_lt _ _ HBB.out
      have hv1 : val (((bitsB s.data.toList).drop (at' + (k - 1))).take 1) = b := by
        have h := val_next Bs (at' + (k - 1)) 0 (by rw [HBLL.out]; have := HBL.out; omega)
        rw [← HBSS.out]
        rw [Nat.zero_add] at h
        rw [h, hb, Nat.add_zero]
        simp [val]
      rw [hv1] at HTK
      obtain ⟨v, hv⟩ : ∃ v, v = 2 * x + b := ⟨_, rfl⟩
      have hvv : v = val (bs.take k) := by
        have h := val_next Bs at' (k - 1) (by rw [HBLL.out]; have := HBL.out; omega)
        rw [← HBS.out, show k - 1 + 1 = k by omega] at h
        rw [h, ← hx.out.2, hv, hb]
      have htl : (bs.take k).length = k := by rw [List.length_take]; omega
      have hvlt : v < 2 ^ k := by
        have h := val_lt _ (HB01.out.take k)
        rw [htl] at h
        rw [hvv]
        exact h
      have hvb : v < 2097152 := by
        have h3 : 2 ^ k ≤ 2 ^ 20 := Nat.pow_le_pow_right (by decide) hk20
        have h4 : (2 : Nat) ^ 20 = 1048576 := by decide
        omega
      have hor := orI_bit x b (by omega) hb2
      rw [← hv] at hor
      have hxb : x < 2097152 := by omega
      have HVV := Lib.hid hvv
      have HVL := Lib.hid hvlt
      have HES := Lib.hid es
      have HNX := Lib.hid hnx2
      clear hnx2 hnx hv1 hv hvv htl hvlt es hb hT hS hR
      go_wp2_with fail
      refine HTK.out.mono ?_
      rintro e w3 ⟨rfl, hR3, hS3⟩
      have hS4 := HS1.out.trans hS3
      have hT4 := HT1.out.step hS3 HR1.out.blk
      have HR4 := Lib.hid hR3
      have HS4 := Lib.hid hS4
      have HT4 := Lib.hid hT4
      have HBG := Lib.hid (cbegins_any w3 g A n c l hT4 HF.out v k hk20 HVL.out)
      clear hR3 hS3 hS4 hT4 HTK HR1 HT1 HS1
      by_cases eb : v * pw k < sumP l
      · rw [decide_eq_true eb] at HBG
        have HEB := Lib.hid eb
        clear eb
        go_wp2_with fail
        refine HBG.out.mono ?_
        rintro e w5 ⟨rfl, d, rfl⟩
        have HR5 : Hid (IsR p (w3.drewN d) p s (at' + (k - 1) + 1)) := Lib.hid (HR4.out.drewN d)
        have HT5 := Lib.hid (HT4.out.drewN d)
        have HS5 := Lib.hid (HS4.out.drewN d)
        generalize w3.drewN d = w5 at *
        clear HR4 HT4 HS4 HBG
        obtain ⟨gs, F, B, hbk, hrow, hsym⟩ := HT5.out
        have hvs : val (bs.take k) * pw k < sumP l := by rw [← HVV.out]; exact HEB.out
        have hfl := first_le HF.out HB01.out (n := k) (by have := HES.out; omega) hk20 hclear.out hvs
        rw [← HVV.out] at hfl
        obtain ⟨f, hf⟩ : ∃ f, f = cd l k 0 := ⟨_, rfl⟩
        obtain ⟨m, hm⟩ : ∃ m, m = cntL l k := ⟨_, rfl⟩
        have q1 := (blk_cell hbk (22 + k)).trans (tb_first _ _ _ _ _ k (by omega))
        have q2 := (blk_cell hbk (1 + k)).trans (tb_cnt _ _ _ _ _ k (by omega))
        rw [← hf] at q1 hfl
        rw [← hm] at q2
        obtain ⟨j, hj⟩ : ∃ j, j = v - f := ⟨_, rfl⟩
        have hjI : (v : Int) - (f : Int) = (j : Int) := by omega
        have hmb := cnt_le l k
        rw [HLL.out, ← hm] at hmb
        have hk21 : (k : Int) < 21 := by omega
        have HN := Lib.hid HNX.out
        by_cases ej : j < m
        · have dj : decide ((j : Int) < (m : Int)) = true := decide_eq_true (by omega)
          have hat := at_row HF.out (F := F) (by rw [HLL.out]; exact hsym) (n := k) (v := v) (by rw [← hf]; exact hfl) (by rw [← hf, ← hm, ← hj]; exact ej)
          rw [← hf, ← hj, HLL.out] at hat
          have q3 := (blk_cell hbk (43 + k)).trans (tb_place _ _ _ _ _ k (by omega))
          have q4 := (blk_cell hbk 64).trans (tb_last _ _ _ _ _)
          obtain ⟨q, hq⟩ : ∃ q, q = plcL l k := ⟨_, rfl⟩
          rw [← hq] at hat q3
          obtain ⟨i, hi⟩ : ∃ i, i = q + j := ⟨_, rfl⟩
          rw [← hi] at hat
          have hin := hat.1
          have hiI : (q : Int) + (j : Int) = (i : Int) := by omega
          have q5 := hrow.cell i hin
          obtain ⟨y, hy⟩ : ∃ y, y = F i := ⟨_, rfl⟩
          rw [← hy] at q5 hat
          have hhit := HN.out
          have h2 := hat.2
          rw [HVV.out] at h2
          rw [nextF_at HES.out h2] at hhit
          have hylen := (isAt_is h2).2.1
          have HPE := Lib.hid fun d => HP.out _ (w5.drewN d) hhit (fun i' h' => by
            have e : y = i' := by injection h'
            rw [← e, hylen, show at' + k = at' + (k - 1) + 1 by omega]
            exact HR5.out.drewN d) (HS5.out.drewN d)
          have w1' : IntKind.i64.wrap (i : Int) = (i : Int) := by rw [IntKind.wrap_i64]; omega
          have HYL := Lib.hid hylen
          clear hbk hrow hsym hvs hfl hf hm hj hmb hat hq hi hy hhit h2 hylen HP HN HNX hclear
          go_upto_region 12 with fail
          go_quiet (fail)
          go_wp2_with fail
          first | exact HPE.out _ | (go_ret2; exact HPE.out _)
        · have dj : decide ((j : Int) < (m : Int)) = false := decide_eq_false (by omega)
          have hat : isAt l k v = none := at_none (by rw [← hm, ← hf, ← hj]; omega)
          rw [HVV.out] at hat
          have hn := HN.out
          rw [nextF_none HES.out hat, if_pos hvs] at hn
          have hk19 : k < 20 := by
            rcases Nat.lt_or_ge k 20 with h | h
            · exact h
            · exfalso
              obtain ⟨i, hi⟩ := (clear_begin HF.out HB01.out (n := k) (by have := HES.out; omega) hk20 hclear.out).2 hvs
              have h5 := (HF.out.one hi.1).2
              have h6 := hi.2.1
              exact isAt_none hat i (hi.is (by omega))
          have HUP := Lib.hid (hclear.out.up hat)
          have HN3 := Lib.hid hn
          clear hbk hrow hsym hvs hfl hf hm hj hmb hat hn HP HN HNX hclear
          go_wp2_with fail
          go_roundw
          case rel =>
            refine ⟨k + 1, v, by omega, by omega, by go_num, rfl, Lib.hid ⟨by have := HES.out; omega, by rw [HVV.out]; rfl⟩, HUP, Lib.hid (by rw [HN3.out, show 21 - (k + 1) = 20 - k by omega]), ?_, HT5.out, HS5.out⟩
            rw [show at' + (k + 1 - 1) = at' + (k - 1) + 1 by omega]
            exact HR5.out
          case measure => simp [intOf]; omega
      · rw [decide_eq_false eb] at HBG
        have hn := HNX.out
        have hat := at_beyond HF.out eb
        rw [HVV.out] at hat eb
        rw [nextF_none HES.out hat, if_neg eb] at hn
        have HN := Lib.hid hn
        clear hn hat eb
        go_wp2_with fail
        refine HBG.out.mono ?_
        rintro e w5 ⟨rfl, d, rfl⟩
        have HPE := Lib.hid (HP.out _ (w3.drewN d) HN.out (fun i h => by cases h) (HS4.out.drewN d))
        go_wp2_with fail
        first | exact HPE.out | (go_ret2; exact HPE.out)

end Go.Proofs.Ytmgmgmbpldboiaa
namespace Go.Proofs.Ytmgmgmbpldboiaa
open Go.RowKit

/-- A table stored where there was none. -/
theorem tab_stored (w : World) (T : Array Value) (hs : T.size = 65) (h1 : T.all (·.oneCell') = true) : (storeCells ⟨w.heap.size, 0, none⟩ T.toList 0).run Try.prog (w.alloc (.cells tb0 98)) = .ok () ((w.alloc (.cells tb0 98)).setRow w.heap.size T) ∧
    Blk ((w.alloc (.cells tb0 98)).setRow w.heap.size T) w.heap.size 98 T ∧ Below w.heap.size w ((w.alloc (.cells tb0 98)).setRow w.heap.size T) := by
  refine ⟨store_cells_row (blk_new w 98 tb0) (by rw [hs]; exact zeroTb.2) (by rw [tb0_size, hs]) h1, setRow_heap _ _ _ _ _ _ (blk_new w 98 tb0), ?_⟩
  exact below_setRow ((Below.refl _ _).alloc (Nat.le_refl _) _) (Nat.le_refl _) _
/-- The table of lengths, stored. -/
theorem tab_is (w w2 : World) (A : Option Addr) (n c g B : Nat) (l : List Nat) (F : Nat → Nat) (T : Array Value) (hT : T = tb (.slice A n c) (cntL l) (fun k => cd l k 0) (plcL l) (.slice (some ⟨g, 0, none⟩) n n)) (hk : Blk w2 w.heap.size 98 T) (hb : Below w.heap.size w w2) (hr : FRow w B g n n F) (hs : SymOk l F n) : TabIs w2 w.heap.size A n c l := by
  subst hT
  exact ⟨g, F, B, hk, hr.below hb hr.lt.2, hs⟩

end Go.Proofs.Ytmgmgmbpldboiaa
namespace Go.Proofs.Ytmgmgmbpldboiaa
open Go.RowKit


theorem allF_more (l bs : List Nat) (en : Int) (k a : Nat) (o : List Nat) : allF l bs en (k + 1) a o = match nextL l (bs.drop a) with
    | .hit i => if (i : Int) = en then (o ++ [i], a + l.getD i 0, 0) else allF l bs en k (a + l.getD i 0) (o ++ [i])
    | .short => ([], 0, 10)
    | .code => ([], 0, 90) := rfl

end Go.Proofs.Ytmgmgmbpldboiaa
namespace Go.Proofs.Ytmgmgmbpldboiaa
open Go.RowKit

end Go.Proofs.Ytmgmgmbpldboiaa
namespace Go.Proofs.Ytmgmgmbpldboiaa
open Go.RowKit

theorem dec_len (s : ByteArray) : (bitsB s.data.toList).length = 8 * s.size := by
  rw [bitsB_length]
  rfl
end Go.Proofs.Ytmgmgmbpldboiaa
