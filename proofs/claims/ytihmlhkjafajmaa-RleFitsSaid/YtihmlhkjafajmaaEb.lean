/- The reference of rle, walked: Encode. Conditions: a text of at most a million bytes. -/
import Derived.Test.YtihmlhkjafajmaaEa
import Derived.ChangeMaps5
import Derived.BigQuiet
import Derived.Laws.BytesArg
namespace Go.Proofs.Ytihmlhkjafajmaa
open Go.RowKit

theorem data_get (t : ByteArray) (j : Nat) (h : j < t.size) : t.data.toList[j]? = some t[j] := by
  have hjl : j < t.data.toList.length := by simpa using h
  rw [List.getElem?_eq_getElem hjl]
  rfl

theorem ext_take (t : ByteArray) (k : Nat) : (t.extract 0 k).data.toList = t.data.toList.take k := by
  rw [ByteArray.data_extract, Array.toList_extract, List.extract_eq_take_drop, List.drop_zero, Nat.sub_zero]
theorem ext_drop (t : ByteArray) (k : Nat) : (t.extract k t.size).data.toList = t.data.toList.drop k := by
  rw [ByteArray.data_extract, Array.toList_extract, List.extract_eq_take_drop]
  refine List.take_of_length_le ?_
  rw [List.length_drop]
  exact Nat.le_refl _
theorem ext_drop_size (t : ByteArray) (k : Nat) : (t.extract k t.size).size = t.size - k := by rw [ByteArray.size_extract]; omega
theorem cat_data (a b : ByteArray) : (a ++ b).data.toList = a.data.toList ++ b.data.toList := by rw [ByteArray.data_append, Array.toList_append]
theorem enc_short (t o : ByteArray) (k : Nat) (S : List UInt8) (ht : 0 < t.size) (hk : headRun t.data.toList = k) (h4 : k < 4) (hS : o.data.toList ++ encL t.data.toList = S) :
    (o ++ t.extract 0 k).data.toList ++ encL (t.extract k t.size).data.toList = S ∧ (o ++ t.extract 0 k).size + 2 * (t.extract k t.size).size ≤ o.size + 2 * t.size := by
  have hne : t.data.toList ≠ [] := fun h => by
    have : t.data.toList.length = 0 := by rw [h]; rfl
    have h2 : t.data.toList.length = t.size := rfl
    omega
  have hl := (headRun_le t.data.toList).2
  have h2 : t.data.toList.length = t.size := rfl
  refine ⟨?_, ?_⟩
  · rw [← hS, encL_step _ hne, hk, pieceL, if_pos h4, cat_data, ext_take, ext_drop, List.append_assoc]
  · rw [ByteArray.size_append, ext_drop_size, ByteArray.size_extract]
    omega
theorem enc_long (t o : ByteArray) (k : Nat) (S : List UInt8) (ht : 0 < t.size) (hk : headRun t.data.toList = k) (h4 : ¬ k < 4) (hS : o.data.toList ++ encL t.data.toList = S) :
    (o ++ t.extract 0 4 ++ ⟨#[UInt8.ofNat (k - 4)]⟩).data.toList ++ encL (t.extract k t.size).data.toList = S ∧ (o ++ t.extract 0 4 ++ ⟨#[UInt8.ofNat (k - 4)]⟩).size + 2 * (t.extract k t.size).size ≤ o.size + 2 * t.size := by
  have hne : t.data.toList ≠ [] := fun h => by
    have : t.data.toList.length = 0 := by rw [h]; rfl
    have h2 : t.data.toList.length = t.size := rfl
    omega
  have hl := (headRun_le t.data.toList).2
  have h2 : t.data.toList.length = t.size := rfl
  have h1 : (⟨#[UInt8.ofNat (k - 4)]⟩ : ByteArray).size = 1 := rfl
  refine ⟨?_, ?_⟩
  · rw [← hS, encL_step _ hne, hk, pieceL, if_neg h4, cat_data, cat_data, ext_take, ext_drop, List.append_assoc, List.append_assoc, List.append_assoc]
  · rw [ByteArray.size_append, ByteArray.size_append, ext_drop_size, ByteArray.size_extract, h1]
    omega

theorem conv_one (w1 : World) (v : Int) : (convert 32 9 (.slice (some ⟨w1.heap.size, 0, none⟩) 1 1)).run Try.prog (w1.alloc (.cells #[.int .u8 v] 5)) = .ok (.string ⟨#[UInt8.ofNat v.toNat]⟩) (w1.alloc (.cells #[.int .u8 v] 5)) := by
  refine run_convert_bytes_arg (P := Try.prog) (w1.alloc (.cells #[.int .u8 v] 5)) 32 5 Try.underlying32 Try.underlying5 w1.heap.size 0 1 1 [v] rfl (fun i hi => ?_) 9 Try.underlying9
  obtain rfl : i = 0 := by omega
  rw [World.cell?_alloc_new]
  rfl

def txtLen : Value → Nat
  | .string t => t.size
  | _ => 0

set_option maxHeartbeats 1600000 in
set_option maxRecDepth 1000000 in
theorem renc_any (w : World) (s : ByteArray) (hs : s.size ≤ 1000000) :
    Calls Try.prog 10 #[.string s] w fun e w' => e = .returned (.string ⟨(encL s.data.toList).toArray⟩) ∧ Below w.heap.size w w' := by
  go_enter Try.func10, Try.ntmps10
  go_wp2_with fail
  go_loopw [0, 3] (fun v a wr => ∃ t o : ByteArray, v = .string t ∧ a = .string o ∧ o.size + 2 * t.size ≤ 2 * s.size ∧ o.data.toList ++ encL t.data.toList = encL s.data.toList ∧ Below w.heap.size w wr) (fun v _ _ => txtLen v)
  case atStart => exact ⟨s, ⟨#[]⟩, rfl, rfl, by show 0 + 2 * s.size ≤ _; omega, rfl, Below.refl _ _⟩
  case round =>
    obtain ⟨t, o, rfl, rfl, hsz, hcat, hb⟩ := hrel
    by_cases h : 0 < t.size
    · have HCAT := Lib.hid hcat
      have HB := Lib.hid hb
      clear hcat hb
      go_wp2_with fail
      go_loopw [4] (fun i wx => ∃ k : Nat, 1 ≤ k ∧ k ≤ 255 ∧ k ≤ t.size ∧ i = .int .i64 k ∧ headRun t.data.toList = k + runN t[0] (255 - k) (t.data.toList.drop k) ∧ Below w.heap.size w wx) (fun i _ => 255 - (intOf i).toNat)
      case atStart =>
        refine ⟨1, Nat.le_refl _, by omega, h, rfl, ?_, HB.out⟩
        have hl : t.data.toList = t[0] :: t.data.toList.drop 1 := by
          have hl0 : 0 < t.data.toList.length := h
          have := List.drop_eq_getElem_cons hl0
          rw [List.drop_zero] at this
          exact this
        rw [hl, headRun_first]
      case round =>
        obtain ⟨k, h1, h2, h3, rfl, hk, hbx⟩ := hrel
        have HBX := Lib.hid hbx
        clear hbx
        by_cases e : ∃ (e1 : k < t.size), k < 255 ∧ t[k] = t[0]
        · obtain ⟨e1, e2, e3⟩ := e
          have HK := Lib.hid (headRun_more t.data.toList k t[0] t[k] (data_get t k e1) h1 e3 e2 hk)
          clear hk
          have q : (((t[k].toNat : Nat) : Int) == ((t[0].toNat : Nat) : Int)) = true := by rw [e3]; simp
          have d2 : (k : Int) < 255 := by omega
          go_wp2_with fail
          go_quiet (fail)
          go_wp2_with fail
          go_roundw
          case rel => exact ⟨k + 1, by omega, by omega, by omega, by go_num, HK.out, below_drewN HBX.out _⟩
          case measure => simp [intOf]; omega
        · have hend : headRun t.data.toList = k := by
            refine headRun_end _ k _ hk ?_
            by_cases e1 : k < t.size
            · by_cases e2 : k < 255
              · exact .inr (.inr ⟨t[k], data_get t k e1, fun e3 => e ⟨e1, e2, e3⟩⟩)
              · exact .inr (.inl (by omega))
            · exact .inl (by show t.size ≤ k; omega)
          have HEND := Lib.hid hend
          by_cases hk4 : k < 4
          · have hq := enc_short t o k _ h hend hk4 HCAT.out
            have hq2 := hq.2
            have HQ := Lib.hid hq
            clear hk hend hq
            by_cases e1 : k < t.size
            · by_cases e2 : k < 255
              · have e3 : t[k] ≠ t[0] := fun e3 => e ⟨e1, e2, e3⟩
                have q : (((t[k].toNat : Nat) : Int) == ((t[0].toNat : Nat) : Int)) = false := by
                  simp only [beq_eq_false_iff_ne, ne_eq]
                  intro h
                  exact e3 (UInt8.toNat_inj.1 (by omega))
                clear e e3
                have d2 : (k : Int) < 255 := by omega
                go_wp2_with fail
                go_quiet (fail)
                go_wp2_with fail
                go_roundw
                case rel => exact ⟨_, _, rfl, rfl, by omega, HQ.out.1, below_drewN HBX.out _⟩
                case measure => show (t.extract k t.size).size < t.size; rw [ext_drop_size]; omega
              · exfalso
                omega
            · clear e
              go_wp2_with fail
              go_quiet (fail)
              go_wp2_with fail
              go_roundw
              case rel => exact ⟨_, _, rfl, rfl, by omega, HQ.out.1, below_drewN HBX.out _⟩
              case measure => show (t.extract k t.size).size < t.size; rw [ext_drop_size]; omega
          · have hq := enc_long t o k _ h hend hk4 HCAT.out
            have hq2 := hq.2
            have HQ := Lib.hid hq
            clear hk hend hq
            by_cases e1 : k < t.size
            · by_cases e2 : k < 255
              · have e3 : t[k] ≠ t[0] := fun e3 => e ⟨e1, e2, e3⟩
                have q : (((t[k].toNat : Nat) : Int) == ((t[0].toNat : Nat) : Int)) = false := by
                  simp only [beq_eq_false_iff_ne, ne_eq]
                  intro h
                  exact e3 (UInt8.toNat_inj.1 (by omega))
                clear e e3
                have d2 : (k : Int) < 255 := by omega
                go_wp2_with fail
                go_quiet (fail)
                go_wp2_with fail
                have hcv : ∀ n, (convert 32 9 (.slice (some ⟨wr.heap.size, 0, none⟩) 1 1)).run Try.prog ((wr.drewN n).alloc (.cells #[.int .u8 ((k : Int) - 4)] 5)) = .ok (.string ⟨#[UInt8.ofNat ((k : Int) - 4).toNat]⟩) ((wr.drewN n).alloc (.cells #[.int .u8 ((k : Int) - 4)] 5)) := fun n => conv_one (wr.drewN n) _
                have d4 : (4 : Int) ≤ t.size := by omega
                go_region
                go_wp2_with fail
                go_roundw
                case rel => exact ⟨_, _, rfl, rfl, by omega, HQ.out.1, (below_drewN HBX.out _).alloc HBX.out.size _⟩
                case measure => show (t.extract k t.size).size < t.size; rw [ext_drop_size]; omega
              · clear e
                have d2 : ¬ (k : Int) < 255 := by omega
                have d3 : decide ((k : Int) < 255) = false := decide_eq_false d2
                go_wp2_with fail
                go_quiet (fail)
                go_wp2_with fail
                have hcv : ∀ n, (convert 32 9 (.slice (some ⟨wr.heap.size, 0, none⟩) 1 1)).run Try.prog ((wr.drewN n).alloc (.cells #[.int .u8 ((k : Int) - 4)] 5)) = .ok (.string ⟨#[UInt8.ofNat ((k : Int) - 4).toNat]⟩) ((wr.drewN n).alloc (.cells #[.int .u8 ((k : Int) - 4)] 5)) := fun n => conv_one (wr.drewN n) _
                have d4 : (4 : Int) ≤ t.size := by omega
                go_region
                go_wp2_with fail
                go_roundw
                case rel => exact ⟨_, _, rfl, rfl, by omega, HQ.out.1, (below_drewN HBX.out _).alloc HBX.out.size _⟩
                case measure => show (t.extract k t.size).size < t.size; rw [ext_drop_size]; omega
            · clear e
              go_wp2_with fail
              go_quiet (fail)
              go_wp2_with fail
              have hcv : ∀ n, (convert 32 9 (.slice (some ⟨wr.heap.size, 0, none⟩) 1 1)).run Try.prog ((wr.drewN n).alloc (.cells #[.int .u8 ((k : Int) - 4)] 5)) = .ok (.string ⟨#[UInt8.ofNat ((k : Int) - 4).toNat]⟩) ((wr.drewN n).alloc (.cells #[.int .u8 ((k : Int) - 4)] 5)) := fun n => conv_one (wr.drewN n) _
              have d4 : (4 : Int) ≤ t.size := by omega
              go_region
              go_wp2_with fail
              go_roundw
              case rel => exact ⟨_, _, rfl, rfl, by omega, HQ.out.1, (below_drewN HBX.out _).alloc HBX.out.size _⟩
              case measure => show (t.extract k t.size).size < t.size; rw [ext_drop_size]; omega
    · have hz : t.size = 0 := by omega
      have ht : t.data.toList = [] := List.eq_nil_of_length_eq_zero hz
      rw [ht, encL_nil, List.append_nil] at hcat
      have HCAT := Lib.hid hcat
      clear hcat
      go_wp2_with fail
      go_ret
      rw [← HCAT.out]
      exact ⟨rfl, hb⟩

end Go.Proofs.Ytihmlhkjafajmaa
