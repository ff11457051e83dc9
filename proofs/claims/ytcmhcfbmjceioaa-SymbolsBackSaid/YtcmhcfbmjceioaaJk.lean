/- The reference of symbols, walked: Take. Conditions: at most ten million bits. -/
import Derived.Test.YtcmhcfbmjceioaaJh
namespace Go.Proofs.Ytcmhcfbmjceioaa
open Go.RowKit

/-- The bytes of a row's first k bits. -/
def takeUp (l : List Nat) (p i k : Nat) : List UInt8 := ((List.range k).filter fun j => l.getD (p + j) 0 == 1).map fun j => UInt8.ofNat (16 * i + j)
theorem takeUp_next (l : List Nat) (p i k : Nat) : takeUp l p i (k + 1) = takeUp l p i k ++ if l.getD (p + k) 0 = 1 then [UInt8.ofNat (16 * i + k)] else [] := by
  unfold takeUp
  rw [List.range_succ, List.filter_append, List.map_append]
  congr 1
  simp only [List.filter_cons, List.filter_nil, beq_iff_eq]
  split <;> rfl
theorem takeUp_length (l : List Nat) (p i k : Nat) : (takeUp l p i k).length ≤ k := by
  unfold takeUp
  rw [List.length_map]
  refine Nat.le_trans (List.length_filter_le _ _) ?_
  rw [List.length_range]
  exact Nat.le_refl _
theorem range_drop (i : Nat) (h : i < 16) : (List.range 16).drop i = i :: (List.range 16).drop (i + 1) := by
  rw [List.drop_eq_getElem_cons (by rw [List.length_range]; exact h), List.getElem_range]
theorem t_empty (t : ByteArray) (o : List UInt8) (h : t.data.toList = o) : t.toList.isEmpty = decide (o = []) := by
  rw [ByteArray.toList_eq, h]
  cases o <;> simp

def endT : Option (List UInt8 × Nat) → List UInt8 × Nat × Nat
  | none => ([], 0, 10)
  | some (out, q) => if out = [] then ([], 0, 60) else (out, q, 0)
theorem takeL_end (L : List Nat) (p : Nat) (h : p + 16 ≤ L.length) : takeL L p = endT (goT L (fun i => L.getD (p + i) 0) (List.range 16) (p + 16) []) := by
  unfold takeL
  rw [if_neg (by omega), if_neg (by omega)]
  rcases goT L (fun i => L.getD (p + i) 0) (List.range 16) (p + 16) [] with _ | ⟨o, q⟩ <;> rfl

set_option maxHeartbeats 3200000 in
set_option maxRecDepth 100000 in
theorem rtake_any (w : World) (A : Option Addr) (n c p : Nat) (L : List Nat) (hL : IntsIn w A n L) (hnc : n ≤ c) (hn : n ≤ 10000000) (hp : p + 16 ≤ n) :
    Calls Try.prog 21 #[.slice A n c, .int .i64 p] w fun e w' => e = .returned (.tuple #[.string (strB (takeL L p).1), .int .i64 (takeL L p).2.1, .int .i64 (takeL L p).2.2]) ∧ Below w.heap.size w w' := by
  obtain ⟨b, off, rfl, hcell⟩ := hL.2 (by omega)
  have hlen := hL.1
  have hans := takeL_end L p (by omega)
  have HANS := Lib.hid hans
  have HC := Lib.hid hcell
  have hbw := World.block_lt_of_cell? w _ (hcell 0 (by omega))
  have HLEN := Lib.hid hlen
  generalize takeL L p = ans at *
  have d1 : decide ((p : Int) < 0) = false := decide_eq_false (by omega)
  have d2 : decide ((n : Int) < (p : Int)) = false := decide_eq_false (by omega)
  have hn2 : ¬ n < p := by omega
  obtain ⟨d, hd⟩ : ∃ d, d = n - p := ⟨_, rfl⟩
  have hdz : (n : Int) - (p : Int) = (d : Int) := by omega
  have d3 : decide ((d : Int) < 16) = false := decide_eq_false (by omega)
  have hi0 : (0 : Int) ≤ (p : Int) := by omega
  have hi1 : (p : Int) ≤ (p : Int) + 16 := by omega
  have hi2 : (p : Int) + 16 ≤ (c : Int) := by omega
  have hi3 : ((p : Int) + 16 - (p : Int)).toNat = 16 := by omega
  have hi4 : ((c : Int) - (p : Int)).toNat = c - p := by omega
  clear hans hL hcell hlen hd
  go_enter Try.func21, Try.ntmps21
  go_wp2_with fail
  clear d1 d2 d3 hn2 hdz hi0 hi1 hi2 hi3 hi4
  obtain ⟨p1, hp1⟩ : ∃ p1, p1 = p + 16 := ⟨_, rfl⟩
  have hp1z : (p : Int) + 16 = (p1 : Int) := by omega
  rw [hp1z]
  rw [← hp1] at HANS
  have HP1 := Lib.hid hp1
  have hp1n : p1 ≤ n := by omega
  clear hp1 hp1z
  go_loopw [1, 8, 9] (fun at_ out x wx => ∃ (i q : Nat) (t : ByteArray) (o : List UInt8), i ≤ 16 ∧ x = .int .i64 i ∧ at_ = .int .i64 q ∧ out = .string t ∧ t.data.toList = o ∧ o.length ≤ 16 * i ∧ q ≤ n ∧
    ans = endT (goT L (fun j => L.getD (p + j) 0) ((List.range 16).drop i) q o) ∧ Below w.heap.size w wx) (fun _ _ x _ => 16 - (intOf x).toNat)
  case atStart => exact ⟨0, p1, ⟨#[]⟩, [], by omega, rfl, rfl, rfl, rfl, by simp, hp1n, HANS.out, Below.refl _ _⟩
  case round =>
    clear HANS
    obtain ⟨i, q, t, o, hi, rfl, rfl, rfl, ht, ho, hqn, hans, hb⟩ := hrel
    have hz9 := hb.size
    have HT := Lib.hid ht
    have HO := Lib.hid ho
    have HANS := Lib.hid hans
    have HB := Lib.hid hb
    by_cases e : i < 16
    · have d1 : decide ((i : Int) < 16) = true := decide_eq_true (by omega)
      have hcf := (hb.cell (p := ⟨b, off + (p + i), none⟩) hbw).trans (HC.out (p + i) (by omega))
      rw [← Nat.add_assoc] at hcf
      rw [range_drop i e, goT] at hans
      obtain ⟨f, hf⟩ : ∃ f, f = L.getD (p + i) 0 := ⟨_, rfl⟩
      rw [← hf] at hcf hans
      by_cases e1 : f = 0
      · rw [if_pos e1] at hans
        have d2 : ((f : Int) == 0) = true := by rw [e1]; rfl
        have HA2 := Lib.hid hans
        clear ht ho hans hb hf e1
        go_wp2_with fail
        go_roundw
        case rel => exact ⟨i + 1, q, t, o, by omega, by go_num, rfl, rfl, HT.out, by have := HO.out; omega, hqn, HA2.out, HB.out⟩
        case measure => simp [intOf]; omega
      · rw [if_neg e1, HLEN.out] at hans
        have d2 : ((f : Int) == 0) = false := by
          simp only [beq_eq_false_iff_ne, ne_eq]
          omega
        obtain ⟨m, hm⟩ : ∃ m, m = n - q := ⟨_, rfl⟩
        have hmz : (n : Int) - (q : Int) = (m : Int) := by omega
        by_cases e2 : n < q + 16
        · rw [if_pos e2] at hans
          have hm16 : m < 16 := by omega
          have d3 : decide ((m : Int) < 16) = true := decide_eq_true (by omega)
          have h9 : ans = ([], 0, 10) := hans
          subst h9
          clear ht ho hans hb hf e1 e2 hm HANS
          go_wp2_with fail
          go_ret3
          exact ⟨rfl, HB.out⟩
        · rw [if_neg e2] at hans
          have hm16 : ¬ m < 16 := by omega
          have d3 : decide ((m : Int) < 16) = false := decide_eq_false (by omega)
          have HA2 := Lib.hid hans
          have hq16 : q + 16 ≤ n := by omega
          clear ht ho hans hb hf e1 e2 hm
          go_wp2_with fail
          go_loopw [8, 10] (fun out x wx => ∃ (k : Nat) (t2 : ByteArray), k ≤ 16 ∧ x = .int .i64 k ∧ out = .string t2 ∧ t2.data.toList = o ++ takeUp L q i k ∧ Below w.heap.size w wx) (fun _ x _ => 16 - (intOf x).toNat)
          case atStart => exact ⟨0, t, by omega, rfl, rfl, by rw [HT.out]; simp [takeUp], HB.out⟩
          case round =>
            obtain ⟨k, t2, hk, rfl, rfl, ht2, hb⟩ := hrel
            have hz8 := hb.size
            have HT2 := Lib.hid ht2
            have HB2 := Lib.hid hb
            by_cases e3 : k < 16
            · have d4 : decide ((k : Int) < 16) = true := decide_eq_true (by omega)
              have hck := (hb.cell (p := ⟨b, off + (q + k), none⟩) hbw).trans (HC.out (q + k) (by omega))
              have hnx := takeUp_next L q i k
              obtain ⟨g, hg⟩ : ∃ g, g = L.getD (q + k) 0 := ⟨_, rfl⟩
              rw [← hg] at hck hnx
              obtain ⟨r, hr⟩ : ∃ r, r = q + k := ⟨_, rfl⟩
              have hrz : (q : Int) + (k : Int) = (r : Int) := by omega
              have hrn : r < n := by omega
              rw [← hr] at hck
              by_cases e4 : g = 1
              · have d5 : ((g : Int) == 1) = true := by rw [e4]; rfl
                rw [if_pos e4] at hnx
                obtain ⟨y, hy⟩ : ∃ y, y = 16 * i + k := ⟨_, rfl⟩
                have hy256 : y < 256 := by omega
                obtain ⟨u, hu⟩ : ∃ u, u = 16 * i := ⟨_, rfl⟩
                have huz : (16 : Int) * (i : Int) = (u : Int) := by omega
                have huz2 : (i : Int) * 16 = (u : Int) := by omega
                have hyz : (u : Int) + (k : Int) = (y : Int) := by omega
                rw [← hy] at hnx
                have hw8 : IntKind.u8.wrap (y : Int) = (y : Int) := by
                  show (y : Int) % 256 = y
                  omega
                have hcv := conv_one wr (y : Int)
                rw [Int.toNat_natCast] at hcv
                obtain ⟨t3, ht3⟩ : ∃ t3 : ByteArray, t3 = t2 ++ ⟨#[UInt8.ofNat y]⟩ := ⟨_, rfl⟩
                have hts : t2.size ≤ 300 := by
                  show t2.data.toList.length ≤ 300
                  rw [ht2, List.length_append]
                  have h1 := HO.out
                  have h2 := takeUp_length L q i k
                  omega
                have hcat : ∀ w9 : World, (Op.stringOp .add t2 ⟨#[UInt8.ofNat y]⟩).run Try.prog w9 = .ok (.string t3) w9 := fun w9 => (run_string_add_sum w9 _ _ (by show t2.size + 1 ≤ _; omega)).trans (by rw [ht3])
                have ht3d : t3.data.toList = o ++ takeUp L q i (k + 1) := by
                  rw [hnx, ← List.append_assoc, ← ht2, ht3]
                  show (t2 ++ ⟨#[UInt8.ofNat y]⟩ : ByteArray).data.toList = _
                  rw [ByteArray.data_append, Array.toList_append]
                have HT3 := Lib.hid ht3d
                have HB3 := Lib.hid (hb.alloc hz8 (.cells #[.int .u8 (y : Int)] 5))
                clear ht2 hb hnx hg hr e4 hy hu ht3 hts ht3d
                go_wp2_with fail
                go_roundw
                case rel => exact ⟨k + 1, t3, by omega, by go_num, rfl, HT3.out, HB3.out⟩
                case measure => simp [intOf]; omega
              · have d5 : ((g : Int) == 1) = false := by
                  simp only [beq_eq_false_iff_ne, ne_eq]
                  omega
                rw [if_neg e4, List.append_nil] at hnx
                have HNX := Lib.hid hnx
                clear ht2 hb hnx hg hr e4
                go_wp2_with fail
                go_roundw
                case rel => exact ⟨k + 1, t2, by omega, by go_num, rfl, by rw [HNX.out]; exact HT2.out, HB2.out⟩
                case measure => simp [intOf]; omega
            · obtain rfl : k = 16 := by omega
              have d4 : decide ((16 : Int) < 16) = false := by decide
              have hrow : takeUp L q i 16 = takeRow L q i := rfl
              rw [hrow] at ht2
              have HT3 := Lib.hid ht2
              have hrl : (takeRow L q i).length ≤ 16 := takeUp_length L q i 16
              clear ht2 hb hrow
              go_wp2_with fail
              go_roundw
              case rel => exact ⟨i + 1, q + 16, t2, o ++ takeRow L q i, by omega, by go_num, by go_num, rfl, HT3.out, by rw [List.length_append]; have := HO.out; omega, hq16, HA2.out, HB2.out⟩
              case measure => simp [intOf]; omega
    · obtain rfl : i = 16 := by omega
      have d1 : decide ((16 : Int) < 16) = false := by decide
      have hdr : (List.range 16).drop 16 = [] := rfl
      rw [hdr, goT] at hans
      have hemp := t_empty t o ht
      by_cases e1 : o = []
      · have h9 : ans = ([], 0, 60) := by
          rw [hans]
          show (if o = [] then (([] : List UInt8), 0, 60) else (o, q, 0)) = _
          rw [if_pos e1]
        rw [decide_eq_true e1] at hemp
        subst h9
        clear hans HANS ht ho hb hdr e1
        go_wp2_with fail
        go_ret3
        exact ⟨rfl, HB.out⟩
      · have h9 : ans = (o, q, 0) := by
          rw [hans]
          show (if o = [] then (([] : List UInt8), 0, 60) else (o, q, 0)) = _
          rw [if_neg e1]
        rw [decide_eq_false e1] at hemp
        have htt : t = strB o := by
          apply ByteArray.ext
          apply Array.ext'
          exact ht
        subst h9 htt
        clear hans HANS ht ho hb hdr e1
        go_wp2_with fail
        go_ret3
        exact ⟨rfl, HB.out⟩

end Go.Proofs.Ytcmhcfbmjceioaa
