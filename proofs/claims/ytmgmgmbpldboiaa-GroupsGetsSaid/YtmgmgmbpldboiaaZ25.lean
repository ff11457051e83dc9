/- Wp Wb: texts laid together, what is not used left out. -/
import Derived.Test.YtmgmgmbpldboiaaZ24
import Derived.Laws.BitsAllLaws
import Derived.BigRegion
import Derived.LoopTactic
import Derived.Deep.LoopGhost
import Derived.IntWalk
import Derived.Deep.DeepCutAuto
import Derived.StillTailTactics
import Derived.Laws.AppendOwn
namespace Go.Proofs.Ytmgmgmbpldboiaa
open Go.RowKit

set_option maxRecDepth 100000 in
/-- A row of bytes that is not empty, in its own block. -/
theorem row_form {w : World} {B n : Nat} {v : Value} {xs : List Value} (h : w.ownsRow B 5 1 v (n + 1) xs) : ∃ g cap, v = .slice (some ⟨g, 0, none⟩) (n + 1) cap ∧ B ≤ g := by
  rcases h.2 with ⟨_, h⟩ | ⟨g, cap, cur, hv, hb, _⟩
  · omega
  · exact ⟨g, cap, hv, hb⟩

/-- What stands at p within a round: the last byte, not yet filled, is c. -/
def Mid (B : Nat) (w wx : World) (p len t : Nat) (pre : List UInt8) (c : UInt8) : Prop :=
  ∃ g cap, Blk wx p 78 #[.bool true, .slice (some ⟨g, 0, none⟩) (t + 1) cap, .int .i64 len] ∧ wx.ownsRow B 5 1 (.slice (some ⟨g, 0, none⟩) (t + 1) cap) (t + 1) ((pre ++ [c]).map bv) ∧ B ≤ g ∧ Step B [p] [5] w wx

theorem mid_same {B p len t : Nat} {w wx : World} {v : Value} {l pre : List UInt8} {c : UInt8} (hl : l = pre ++ [c]) (ht : pre.length = t) (hb : Blk wx p 78 #[.bool true, v, .int .i64 len]) (hr : wx.ownsRow B 5 1 v l.length (l.map bv)) (hs : Step B [p] [5] w wx) : Mid B w wx p len t pre c := by
  subst hl
  subst ht
  rw [List.length_append, List.length_singleton] at hr
  obtain ⟨g, cap, rfl, hg⟩ := row_form hr
  exact ⟨g, cap, hb, hr, hg, hs⟩

set_option maxRecDepth 100000 in
theorem mid_new {B p len t : Nat} {w wx wy : World} {v v1 : Value} {l : List UInt8} (ht : l.length = t) (hb : Blk wx p 78 #[.bool true, v, .int .i64 len]) (hB : B ≤ p) (hr : wx.ownsRow B 5 1 v l.length (l.map bv)) (hs : Step B [p] [5] w wx)
    (hn : wy.ownsRow B 5 1 v1 (l.length + 1) (l.map bv ++ [.int .u8 0])) (hg : (wx.alloc (.cells #[.int .u8 0] 5)).grownBy wy v.ownBlock) : Mid B w (wy.setCell ⟨p, 1, none⟩ v1) p len t l 0 := by
  subst ht
  obtain ⟨g, cap, rfl, hg0⟩ := row_form hn
  have hB' : B ≤ wx.heap.size := Nat.le_trans hB (Nat.le_of_lt (blk_lt hb))
  have hs1 : Step B [p] [5] w (wx.alloc (.cells #[.int .u8 0] 5)) := hs.alloc hB' _
  have hs2 : Step B [p] [5] w wy := hs1.grown hg (by simp; omega) (row_blk (hr.alloc _))
  have hb1 : Blk (wx.alloc (.cells #[.int .u8 0] 5)) p 78 #[.bool true, v, .int .i64 len] := (Below.heap_alloc wx _ p (blk_lt hb)).trans hb
  have hb2 : Blk wy p 78 #[.bool true, v, .int .i64 len] := (hg.block p (blk_lt hb1) (fun e => row_ne (hr.alloc _) hb1 (by decide) p e.symm rfl)).trans hb1
  have hb3 := blk_set hb2 1 (.slice (some ⟨g, 0, none⟩) (l.length + 1) cap)
  refine ⟨g, cap, hb3, ?_, hg0, hs2.set hB (by simp) _⟩
  have hx : Step B [p] [] wy (wy.setCell ⟨p, 1, none⟩ (.slice (some ⟨g, 0, none⟩) (l.length + 1) cap)) := (Step.refl B [p] [] wy).set hB (by simp) _
  have := hx.row hn (fun k hk => by
    have := row_ne hn hb2 (by decide) k hk
    simpa using this) (by simp)
  simpa [bv] using this

theorem blk_grown {B p n : Nat} {e t : TypeId} {wx wy : World} {v : Value} {xs : List Value} {cs : Array Value} {o : Obj} (hb : Blk wx p t cs) (hr : wx.ownsRow B e 1 v n xs) (hne : e ≠ t) (hg : (wx.alloc o).grownBy wy v.ownBlock) : Blk wy p t cs := by
  have hb1 : Blk (wx.alloc o) p t cs := (Below.heap_alloc wx _ p (blk_lt hb)).trans hb
  exact (hg.block p (blk_lt hb1) (fun e => row_ne (hr.alloc _) hb1 hne p e.symm rfl)).trans hb1

set_option maxRecDepth 100000 in
theorem pack_mid0 (L : List Nat) (h : L.length % 8 = 0) : pack (L.take (8 * (L.length / 8))) = pack L ∧ UInt8.ofNat (val (L.drop (8 * (L.length / 8))) * 2 ^ (8 - L.length % 8)) = 0 := by
  have e : 8 * (L.length / 8) = L.length := by omega
  rw [e, List.take_length, List.drop_length]
  exact ⟨rfl, by simp [val]⟩
set_option maxRecDepth 100000 in
theorem pack_mid1 (L : List Nat) (h : ¬ L.length % 8 = 0) : pack L = pack (L.take (8 * (L.length / 8))) ++ [UInt8.ofNat (val (L.drop (8 * (L.length / 8))) * 2 ^ (8 - L.length % 8))] := by
  conv => lhs; rw [pack_split L]
  rw [pack_short (L.drop (8 * (L.length / 8))) (by simp; omega) (by simp; omega)]
  rw [List.length_drop, show L.length - 8 * (L.length / 8) = L.length % 8 by omega]

set_option maxRecDepth 100000 in
theorem byte_low (z k s r : Nat) (h : r + k + s = 8) (hz : r = 0 ∨ z < 2 ^ k) : z % 256 * 2 ^ s % 256 = z % 2 ^ k * 2 ^ s := by
  rcases hz with hr | hz
  · subst hr
    have e : 256 = 2 ^ k * 2 ^ s := by rw [← Nat.pow_add, show k + s = 8 by omega]
    conv => lhs; rhs; rw [e]
    rw [Nat.mul_mod_mul_right, Nat.mod_mod_of_dvd _ ⟨2 ^ s, e⟩]
  · have e : 2 ^ (k + s) ≤ 2 ^ 8 := Nat.pow_le_pow_right (by omega) (by omega)
    have h1 : z * 2 ^ s < 2 ^ (k + s) := by rw [Nat.pow_add]; exact Nat.mul_lt_mul_of_pos_right hz (Nat.two_pow_pos _)
    have h2 : z ≤ z * 2 ^ s := Nat.le_mul_of_pos_right _ (Nat.two_pow_pos _)
    rw [Nat.mod_eq_of_lt (show z < 256 by omega), Nat.mod_eq_of_lt hz, Nat.mod_eq_of_lt (by omega)]

theorem or_byte (R z r k s : Nat) (h : r + k + s = 8) (hz : r = 0 ∨ z < 2 ^ k) :
    bits .or .u8 ((R : Int) * 2 ^ (8 - r) % 256) ((z : Int) % 256 * 2 ^ s % 256) = ((R * 2 ^ (8 - r) % 256 ||| z % 2 ^ k * 2 ^ s : Nat) : Int) := by
  have e1 : ((R : Int) * 2 ^ (8 - r) % 256) = ((R * 2 ^ (8 - r) % 256 : Nat) : Int) := by rw [Int.natCast_emod, Int.natCast_mul, Int.natCast_pow]; rfl
  have e2 : ((z : Int) % 256 * 2 ^ s % 256) = ((z % 256 * 2 ^ s % 256 : Nat) : Int) := by rw [Int.natCast_emod, Int.natCast_mul, Int.natCast_pow, Int.natCast_emod]; rfl
  rw [e1, e2, u8_or_nat _ _ (Nat.mod_lt _ (by omega)) (Nat.mod_lt _ (by omega)), byte_low z k s r h hz]

set_option maxRecDepth 100000 in
theorem put_close {B p g cap t len k m m1 n x : Nat} {w wc : World} {L : List Nat} {y : Int}
    (hlen : len = (L ++ bitsN (x / 2 ^ m) (n - m)).length) (ht : (pack ((L ++ bitsN (x / 2 ^ m) (n - m)).take (8 * (len / 8)))).length = t)
    (hb : Blk wc p 78 #[.bool true, .slice (some ⟨g, 0, none⟩) (t + 1) cap, .int .i64 len])
    (hr : wc.ownsRow B 5 1 (.slice (some ⟨g, 0, none⟩) (t + 1) cap) (t + 1) ((pack ((L ++ bitsN (x / 2 ^ m) (n - m)).take (8 * (len / 8))) ++ [UInt8.ofNat (val ((L ++ bitsN (x / 2 ^ m) (n - m)).drop (8 * (len / 8))) * 2 ^ (8 - len % 8))]).map bv))
    (hBp : B ≤ p) (hBg : B ≤ g) (hS : Step B [p] [5] w wc) (hbit : Bit01 L) (hk : 0 < k) (hk8 : k ≤ 8 - len % 8) (hm : m = m1 + k) (hmn : m ≤ n) (hend : m1 = 0 ∨ k = 8 - len % 8) (hne : g ≠ p)
    (hy : y = ((val ((L ++ bitsN (x / 2 ^ m) (n - m)).drop (8 * (len / 8))) * 2 ^ (8 - len % 8) % 256 ||| (x / 2 ^ m1) % 2 ^ k * 2 ^ (8 - len % 8 - k) : Nat) : Int)) :
    let W := ((wc.setCell ⟨g, t, none⟩ (.int .u8 y)).setCell ⟨p, 2, none⟩ (.int .i64 (len + k))).drew
    (∃ v', IsW B W p v' (L ++ bitsN (x / 2 ^ m1) (n - m1))) ∧ Step B [p] [5] w W ∧ (m1 = 0 ∨ (L.length + (n - m1)) % 8 = 0 ∨ x / 2 ^ m1 = 0) := by
  intro W
  have hbits : bitsN (x / 2 ^ m1) (n - m1) = bitsN (x / 2 ^ m) (n - m) ++ bitsN (x / 2 ^ m1) k := by
    rw [show n - m1 = (n - m) + k by omega, bitsN_add, Nat.div_div_eq_div_mul, ← Nat.pow_add, ← hm]
  have hmore := pack_more (L ++ bitsN (x / 2 ^ m) (n - m)) (bitsN (x / 2 ^ m1) k) (by rw [bitsN_length]; exact hk) (by rw [← hlen, bitsN_length]; omega) (bit01_bitsN _ _)
  rw [List.append_assoc, ← hbits, ← hlen, val_bitsN, bitsN_length] at hmore
  have hR : val ((L ++ bitsN (x / 2 ^ m) (n - m)).drop (8 * (len / 8))) * 2 ^ (8 - len % 8) < 256 := by
    have h1 := val_lt _ ((hbit.append (bit01_bitsN (n - m) (x / 2 ^ m))).drop (8 * (len / 8)))
    rw [List.length_drop, ← hlen, show len - 8 * (len / 8) = len % 8 by omega] at h1
    have h2 : (256 : Nat) = 2 ^ (len % 8) * 2 ^ (8 - len % 8) := by rw [← Nat.pow_add, show len % 8 + (8 - len % 8) = 8 by omega]
    rw [h2]
    exact Nat.mul_lt_mul_of_pos_right h1 (Nat.two_pow_pos _)
  rw [Nat.mod_eq_of_lt hR] at hy
  generalize val ((L ++ bitsN (x / 2 ^ m) (n - m)).drop (8 * (len / 8))) * 2 ^ (8 - len % 8) = R at *
  generalize hpre : pack ((L ++ bitsN (x / 2 ^ m) (n - m)).take (8 * (len / 8))) = pre at *
  generalize hM : (x / 2 ^ m1) % 2 ^ k * 2 ^ (8 - len % 8 - k) = M at *
  have hMl : M < 256 := by
    have h1 : (x / 2 ^ m1) % 2 ^ k < 2 ^ k := Nat.mod_lt _ (Nat.two_pow_pos _)
    have h2 : M < 2 ^ k * 2 ^ (8 - len % 8 - k) := by rw [← hM]; exact Nat.mul_lt_mul_of_pos_right h1 (Nat.two_pow_pos _)
    rw [← Nat.pow_add] at h2
    have h3 : 2 ^ (k + (8 - len % 8 - k)) ≤ 2 ^ 8 := Nat.pow_le_pow_right (by omega) (by omega)
    omega
  have hlenall : (L ++ bitsN (x / 2 ^ m1) (n - m1)).length = len + k := by
    rw [hlen, List.length_append, List.length_append, bitsN_length, bitsN_length]; omega
  obtain ⟨hr1, hg1⟩ := hr.stored t (.int .u8 y)
  have hb1 : Blk (wc.setCell ⟨g, t, none⟩ (.int .u8 y)) p 78 #[.bool true, .slice (some ⟨g, 0, none⟩) (t + 1) cap, .int .i64 len] :=
    (Below.heap_setCell wc ⟨g, t, none⟩ _ p (fun e => hne e.symm)).trans hb
  have hb2 := blk_set hb1 2 (.int .i64 ((len : Int) + k))
  have hSt : Step B [p] [5] w (wc.setCell ⟨g, t, none⟩ (.int .u8 y)) := by
    obtain ⟨_, cs, t', fr, hh, ht'⟩ := row_blk hr g rfl
    exact hS.setT hBg hh ht' _
  refine ⟨⟨.slice (some ⟨g, 0, none⟩) (t + 1) cap, hBp, ?_, ?_, hbit.append (bit01_bitsN _ _)⟩, (hSt.set hBp (by simp) _).drew, ?_⟩
  · show Blk (((wc.setCell ⟨g, t, none⟩ (.int .u8 y)).setCell ⟨p, 2, none⟩ (.int .i64 (len + k))).drew) p 78 _
    rw [hlenall]
    have : (((len + k : Nat) : Int)) = (len : Int) + k := by omega
    rw [this]
    exact hb2
  · have hx : Step B [p] [] (wc.setCell ⟨g, t, none⟩ (.int .u8 y)) (((wc.setCell ⟨g, t, none⟩ (.int .u8 y)).setCell ⟨p, 2, none⟩ (.int .i64 (len + k))).drew) := ((Step.refl B [p] [] _).set hBp (by simp) _).drew
    have h3 := hx.row hr1 (fun j hj => by simp [Value.ownBlock] at hj; subst hj; simpa using hne) (by simp)
    rw [hmore, List.length_append, List.length_singleton, ht]
    have hset : ((pre ++ [UInt8.ofNat R]).map bv).set t (.int .u8 y) = (pre ++ [UInt8.ofNat (R ||| M)]).map bv := by
      rw [List.map_append, List.map_append, List.set_append, if_neg (by simp [ht]), List.length_map, ht, Nat.sub_self]
      simp [bv, hy, Nat.mod_eq_of_lt hR, Nat.mod_eq_of_lt hMl]
    rw [hset] at h3
    exact h3
  · rcases hend with h | h
    · exact .inl h
    · right; left
      rw [hlen, List.length_append, bitsN_length] at h
      omega

set_option maxRecDepth 100000 in
theorem low_zero {L : List Nat} {x n m m1 k len : Nat} (hz : m = 0 ∨ (L.length + (n - m)) % 8 = 0 ∨ x / 2 ^ m = 0) (h0 : 0 < m) (hm : m = m1 + k) (hlen : len = (L ++ bitsN (x / 2 ^ m) (n - m)).length) : len % 8 = 0 ∨ x / 2 ^ m1 < 2 ^ k := by
  rcases hz with h9 | h9 | h9
  · omega
  · left; rw [hlen, List.length_append, bitsN_length]; exact h9
  · right
    rw [hm, Nat.pow_add, ← Nat.div_div_eq_div_mul] at h9
    exact (Nat.div_eq_zero_iff_lt (Nat.two_pow_pos k)).1 h9

theorem y_last (R x len m : Nat) (hk : m ≤ 8 - len % 8) (hz : len % 8 = 0 ∨ x / 2 ^ 0 < 2 ^ m) :
    bits .or .u8 ((R : Int) * 2 ^ (8 - len % 8) % 256) ((x : Int) % 256 * 2 ^ (8 - len % 8 - m) % 256) = ((R * 2 ^ (8 - len % 8) % 256 ||| (x / 2 ^ 0) % 2 ^ m * 2 ^ (8 - len % 8 - m) : Nat) : Int) := by
  rw [Nat.pow_zero, Nat.div_one] at *
  exact or_byte R x (len % 8) m _ (by omega) hz

set_option maxRecDepth 100000 in
theorem y_full (R x len m1 : Nat) (hz : len % 8 = 0 ∨ x / 2 ^ m1 < 2 ^ (8 - len % 8)) :
    bits .or .u8 ((R : Int) * 2 ^ (8 - len % 8) % 256) ((x : Int) / 2 ^ m1 % 256) = ((R * 2 ^ (8 - len % 8) % 256 ||| (x / 2 ^ m1) % 2 ^ (8 - len % 8) * 2 ^ (8 - len % 8 - (8 - len % 8)) : Nat) : Int) := by
  have h := or_byte R (x / 2 ^ m1) (len % 8) (8 - len % 8) (8 - len % 8 - (8 - len % 8)) (by omega) hz
  rw [← h, Nat.sub_self]
  simp

end Go.Proofs.Ytmgmgmbpldboiaa
namespace Go.Proofs.Ytmgmgmbpldboiaa
open Go.RowKit

set_option maxRecDepth 100000 in
theorem put_ok (B : Nat) (w : World) (p : Nat) (v : Value) (L : List Nat) (x n : Nat) (hW : IsW B w p v L) (hL : L.length ≤ 1000000000000) (hn : n ≤ 64) (hx : x < 2 ^ n) :
    Calls Try.prog 41 #[.pointer (some ⟨p, 0, none⟩), .int .u64 x, .int .i64 n] w fun e w' => e = .returned (.int .i64 0) ∧ ∃ v', IsW B w' p v' (L ++ bitsN x n) ∧ Step B [p] [5] w w' := by
  have hd : ((x : Int) / 2 ^ n != 0) = false := by
    have h2 : ((x / 2 ^ n : Nat) : Int) = (x : Int) / 2 ^ n := by simp
    rw [← h2, Nat.div_eq_of_lt hx]; rfl
  have h0 := blk_cell hW.blk 0
  simp at h0
  go_enter Try.func41, Try.ntmps41
  go_wp2_with (go_at_call 45; refine (wright_yes _ _ h0).mono ?_; rintro e w' ⟨rfl, rfl⟩)
  go_loopw [2] (fun i wr => ∃ (m : Nat) (v' : Value), m ≤ n ∧ i = .int .i64 m ∧ IsW B wr p v' (L ++ bitsN (x / 2 ^ m) (n - m)) ∧ Step B [p] [5] w wr ∧ (m = 0 ∨ (L.length + (n - m)) % 8 = 0 ∨ x / 2 ^ m = 0)) (fun i _ => (intOf i).toNat)
  case atStart =>
    refine ⟨n, v, Nat.le_refl _, rfl, ?_, Step.refl _ _ _ _, .inr (.inr (Nat.div_eq_of_lt hx))⟩
    rw [Nat.sub_self, show bitsN (x / 2 ^ n) 0 = [] from rfl, List.append_nil]
    exact hW
  case round =>
    clear h0 hd
    obtain ⟨m, v', hm, rfl, hWr, hS, hz⟩ := hrel
    have HZ := Lib.hid hz; clear hz
    obtain ⟨len, hlen⟩ : ∃ len, len = (L ++ bitsN (x / 2 ^ m) (n - m)).length := ⟨_, rfl⟩
    have hlen' : len ≤ L.length + 64 := by rw [hlen, List.length_append, bitsN_length]; omega
    have c1 := blk_cell hWr.blk 1
    have c2 := blk_cell hWr.blk 2
    have f1 := blk_frozen hWr.blk 1
    have f2 := blk_frozen hWr.blk 2
    rw [← hlen] at c2
    simp at c1 c2
    have hblk : Blk wr p 78 #[.bool true, v', .int .i64 len] := by rw [hlen]; exact hWr.blk
    have HL := Lib.hid hlen; clear hlen
    obtain ⟨t, ht⟩ : ∃ t, (pack ((L ++ bitsN (x / 2 ^ m) (n - m)).take (8 * (len / 8)))).length = t := ⟨_, rfl⟩
    have HT := Lib.hid ht; clear ht
    have htl : 8 * t ≤ len := by
      rw [← HT.out, pack_length, List.length_take, ← HL.out]; omega
    by_cases h : 0 < m
    · go_upto_if 33 with fail
      go_cut [] from 24 to 80 (fun wx => Mid B w wx p len t (pack ((L ++ bitsN (x / 2 ^ m) (n - m)).take (8 * (len / 8)))) (UInt8.ofNat (val ((L ++ bitsN (x / 2 ^ m) (n - m)).drop (8 * (len / 8))) * 2 ^ (8 - len % 8))))
      case first =>
        obtain ⟨i5, hi, hz0, hz1, hz2⟩ := info_parts Try.info5
        by_cases h8 : len % 8 = 0
        · have h88 : ((8 - (len : Int) % 8) == 8) = true := by rw [beq_iff_eq]; omega
          have H8 := Lib.hid h8; clear h8
          go_wp2_with (at_builtin; refine wpList_append_own _ rfl _ _ 76 rfl B 5 i5 (.int .u8 0) 1 1 Try.underlying76 hi hz0 hz1 hz2 rfl (by decide) _ _ _ rfl (hWr.row.alloc _) ⟨wr.heap.size, 0, none⟩ 1 1 [.int .u8 0] rfl rfl ?c1 ?c2 ?c3 ?c4 ?c5 ?_)
          case c1 => exact cell_one_new _ _ _
          case c2 => intro u hu; simp at hu; subst hu; rfl
          case c3 => rw [pack_length, ← HL.out]; unfold maxLen; omega
          case c4 => rw [pack_length, ← HL.out]; omega
          case c5 => have := blk_lt hWr.blk; have := hWr.lo; simp; omega
          intro v1 w1 hown1 hgrow1 _
          have hm0 := pack_mid0 _ (by rw [← HL.out]; exact H8.out : (L ++ bitsN (x / 2 ^ m) (n - m)).length % 8 = 0)
          rw [← HL.out] at hm0
          have hm1 := mid_new (t := t) (by rw [← hm0.1]; exact HT.out) hblk hWr.lo hWr.row hS hown1 hgrow1
          have HM : Hid (_ ∧ _) := Lib.hid hm0
          clear hm0
          have hb1 := blk_grown hblk hWr.row (by decide) hgrow1
          have d1 := blk_cell hb1 1
          have e1 := blk_frozen hb1 1
          simp at d1
          obtain ⟨g1, cap1, hv1, hg1⟩ := row_form hown1
          rw [hv1] at hm1 ⊢
          have HV1 := Lib.hid hv1; clear hv1
          go_wp2
          go_meet
          case rel => rw [HM.out.1, HM.out.2]; exact hm1
        · have h88 : ((8 - (len : Int) % 8) == 8) = false := by rw [beq_eq_false_iff_ne]; omega
          have H8 := Lib.hid h8; clear h8
          go_wp2
          go_meet
          case rel => exact mid_same (by have := pack_mid1 _ (by rw [← HL.out]; exact H8.out); rw [← HL.out] at this; exact this) HT.out hblk hWr.row hS
      case rest =>
        obtain ⟨g, cap, hb, hr, hg, hS1⟩ := hcut
        clear c1 c2 f1 f2 hblk hWr
        have c0 := blk_cell hb 0
        have c1 := blk_cell hb 1
        have c2 := blk_cell hb 2
        have f1 := blk_frozen hb 1
        have f2 := blk_frozen hb 2
        simp at c0 c1 c2
        have r1 := hr.cellAt t (by omega)
        have r2 := hr.frozenAt t
        rw [List.map_append, List.getElem?_append_right (by rw [List.length_map, HT.out]; exact Nat.le_refl _)] at r1
        rw [List.length_map, HT.out, Nat.sub_self] at r1
        simp [bv] at r1
        have hne : g ≠ p := row_ne hr hb (by decide) g rfl
        have hne' : p ≠ g := fun e => hne e.symm
        by_cases hmin : m ≤ 8 - len % 8
        · go_upto_region 10 with fail
          go_region
          go_wp2
          go_roundw
          case rel =>
            obtain ⟨⟨v2, h1⟩, h2, h3⟩ := put_close (m1 := 0) (k := m) HL.out HT.out hb hr hW.lo hg hS1 hW.bit h (by omega) (by omega) hm (.inl rfl) hne (y_last _ x len m hmin (low_zero HZ.out h (by omega) HL.out))
            exact ⟨0, v2, Nat.zero_le _, rfl, h1, h2, h3⟩
          case measure => simp [intOf]; omega
        · have hmin' : 8 - len % 8 < m := by omega
          clear hmin
          go_upto_region 10 with fail
          go_region
          go_wp2
          go_roundw
          case rel =>
            obtain ⟨⟨v2, h1⟩, h2, h3⟩ := put_close (m1 := m - (8 - len % 8)) (k := 8 - len % 8) HL.out HT.out hb hr hW.lo hg hS1 hW.bit (by omega) (by omega) (by omega) hm (.inr rfl) hne (y_full _ x len _ (low_zero HZ.out h (by omega) HL.out))
            have hk : (((8 - len % 8 : Nat) : Int)) = 8 - (len : Int) % 8 := by omega
            rw [hk] at h1 h2
            exact ⟨m - (8 - len % 8), v2, by omega, by congr 1; omega, h1, h2, h3⟩
          case measure => simp [intOf]; omega
    · obtain rfl : m = 0 := by omega
      rw [Nat.pow_zero, Nat.div_one, Nat.sub_zero] at hWr
      go_wp2
      go_ret
      exact ⟨rfl, ⟨v', hWr⟩, hS⟩

end Go.Proofs.Ytmgmgmbpldboiaa
