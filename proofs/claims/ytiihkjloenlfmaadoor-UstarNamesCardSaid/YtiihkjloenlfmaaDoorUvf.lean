/- Ustar: plain: the fields as the landed code lays them are the document's header. -/
import Derived.Test.YtiihkjloenlfmaaDoorUvb
namespace Go.Proofs.YtiihkjloenlfmaaDoor
open Go.RowKit

def aheadP (h : HeadP) (name : List UInt8) : List LaidP := [textA name 100, octalA h.mode 8, octalA h.uid 8, octalA h.gid 8, octalA h.size 12, octalA h.time 12]
def behindP (h : HeadP) (pre : List UInt8) : List LaidP := [kindA h.kind, textA h.link.data.toList 100, (ustarL, 0), ownA h.user.data.toList, ownA h.group.data.toList, octalA 0 8, octalA 0 8, textA pre 155, textA [] 12]
theorem textA_le (s : List UInt8) (n : Nat) : (textA s n).1.length ≤ n := by
  unfold textA
  split
  · exact Nat.zero_le _
  · split
    · exact Nat.zero_le _
    · next h => rw [List.length_append, List.length_replicate]; omega
theorem octalA_le (x : Int) (n : Nat) : (octalA x n).1.length ≤ n := by
  unfold octalA
  split
  · exact Nat.zero_le _
  · split
    · exact Nat.zero_le _
    · rw [List.length_append, octL_length, List.length_singleton]; omega
theorem ownA_le (s : List UInt8) : (ownA s).1.length ≤ 32 := by
  have := textA_le s 31
  unfold ownA
  rw [List.length_append, List.length_singleton]
  exact Nat.succ_le_succ this
theorem kindA_le (k : Nat) : (kindA k).1.length ≤ 1 := by
  unfold kindA
  split
  · exact Nat.le_refl _
  · exact Nat.zero_le _
set_option maxRecDepth 100000 in
theorem aheadP_le (h : HeadP) (name : List UInt8) : (layS (aheadP h name)).length ≤ 1000 := by
  have h0 := textA_le name 100
  have h1 := octalA_le h.mode 8
  have h2 := octalA_le h.uid 8
  have h3 := octalA_le h.gid 8
  have h4 := octalA_le h.size 12
  have h5 := octalA_le h.time 12
  unfold layS aheadP
  simp only [List.flatMap_cons, List.flatMap_nil, List.length_append, List.length_nil]
  simp only [Int.cast_ofNat_Int] at *
  omega
set_option maxRecDepth 100000 in
theorem behindP_le (h : HeadP) (pre : List UInt8) : (layS (behindP h pre)).length ≤ 1000 := by
  have h0 := kindA_le h.kind
  have h1 := textA_le h.link.data.toList 100
  have h2 := ownA_le h.user.data.toList
  have h3 := ownA_le h.group.data.toList
  have h4 := octalA_le 0 8
  have h5 := textA_le pre 155
  have h6 := textA_le [] 12
  have h7 : ustarL.length = 8 := rfl
  unfold layS behindP
  simp only [List.flatMap_cons, List.flatMap_nil, List.length_append, List.length_nil]
  simp only [Int.cast_ofNat_Int] at *
  omega
set_option maxRecDepth 100000 in
theorem textA_ok (s : List UInt8) (n : Nat) (hn : n ≤ 512) : (textA s n).2 = 0 ↔ s.length ≤ n ∧ cutZ s = s := by
  unfold textA
  rw [if_neg (by omega)]
  split
  · next h =>
    constructor
    · intro h2; cases h2
    · rintro ⟨h1, h2⟩
      rcases h with h | h
      · omega
      · exact absurd h2 h
  · next h =>
    refine ⟨fun _ => ⟨?_, ?_⟩, fun _ => rfl⟩
    · by_cases e : s.length ≤ n
      · exact e
      · exact absurd (.inl (by omega)) h
    · by_cases e : cutZ s = s
      · exact e
      · exact absurd (.inr e) h
theorem octalA_ok (x : Int) (n : Nat) (h1 : 2 ≤ n) (h2 : n ≤ 20) : (octalA x n).2 = 0 ↔ 0 ≤ x ∧ x < 8 ^ (n - 1) := by
  unfold octalA
  rw [if_neg (by omega), Int.toNat_natCast]
  have hp : (0 : Int) < 8 ^ (n - 1) := Int.pow_pos (by decide)
  have hz : x / 8 ^ (n - 1) = 0 ↔ 0 ≤ x ∧ x < 8 ^ (n - 1) := by
    constructor
    · intro h
      have h3 := Int.emod_nonneg x (Int.ne_of_gt hp)
      have h4 := Int.emod_lt_of_pos x hp
      have h5 := Int.mul_ediv_add_emod x (8 ^ (n - 1))
      rw [h, Int.mul_zero, Int.zero_add] at h5
      rw [h5] at h3 h4
      exact ⟨h3, h4⟩
    · exact fun h => Int.ediv_eq_zero_of_lt h.1 h.2
  split
  · next h =>
    constructor
    · intro h3; cases h3
    · exact fun h3 => absurd (hz.2 h3) h
  · next h => exact ⟨fun _ => hz.1 (Classical.not_not.1 h), fun _ => rfl⟩
theorem kindA_ok (k : Nat) : (kindA k).2 = 0 ↔ (k = 48 ∨ k = 53 ∨ k = 120 ∨ k = 103) := by
  unfold kindA
  split
  · next h => exact ⟨fun _ => h, fun _ => rfl⟩
  · next h =>
    constructor
    · intro h2; cases h2
    · exact fun h2 => absurd h2 h
theorem own_tW (s : List UInt8) (h : (ownA s).2 = 0) : (ownA s).1 = tW s 32 := by
  obtain ⟨h1, h2⟩ := (textA_ok s 31 (by omega)).1 h
  have e1 := (tW_len h1 (by omega) h2).1
  have e2 := (tW_len (show s.length ≤ 32 by omega) (by omega) h2).1
  rw [e2]
  show tW s 31 ++ [0] = _
  rw [e1, List.append_assoc]
  congr 1
  rw [show 32 - s.length = (31 - s.length) + 1 by omega, List.replicate_succ']
set_option maxRecDepth 100000 in
theorem path_ok (p a b : List UInt8) (hs : splitL p = (a, b, true)) : (cutZ p = p ↔ cutZ a = a ∧ cutZ b = b) ∧ p.length ≤ 256 := by
  obtain ⟨h1, h2, h3, h4, h5⟩ := split_back p a b hs
  constructor
  · rw [cutZ_iff, cutZ_iff, cutZ_iff]
    constructor
    · exact fun h => ⟨fun hh => h (h4 _ hh), fun hh => h (h5 _ hh)⟩
    · rintro ⟨ha, hb⟩ hh
      rw [← h1] at hh
      unfold joinP at hh
      split at hh
      · exact hb hh
      · rcases List.mem_append.1 hh with hh | hh
        · exact ha hh
        · rcases List.mem_cons.1 hh with hh | hh
          · exact absurd hh (by decide)
          · exact hb hh
  · rw [← h1]
    unfold joinP
    split
    · omega
    · rw [List.length_append, List.length_cons]
      omega
set_option maxRecDepth 100000 in
theorem enc_ok (h : HeadP) (a b : List UInt8) (hs : splitL h.path.data.toList = (a, b, true)) : (layOk (aheadP h b) ∧ layOk (behindP h a)) ↔ mayA h := by
  obtain ⟨hp, hl⟩ := path_ok _ _ _ hs
  obtain ⟨_, h2, h3, _, _⟩ := split_back _ _ _ hs
  have hz : h.path.size = h.path.data.toList.length := rfl
  have z1 : h.link.size = h.link.data.toList.length := rfl
  have z2 : h.user.size = h.user.data.toList.length := rfl
  have z3 : h.group.size = h.group.data.toList.length := rfl
  have t0 := textA_ok b 100 (by omega)
  have t1 := octalA_ok h.mode 8 (by omega) (by omega)
  have t2 := octalA_ok h.uid 8 (by omega) (by omega)
  have t3 := octalA_ok h.gid 8 (by omega) (by omega)
  have t4 := octalA_ok h.size 12 (by omega) (by omega)
  have t5 := octalA_ok h.time 12 (by omega) (by omega)
  have k0 := kindA_ok h.kind
  have k1 := textA_ok h.link.data.toList 100 (by omega)
  have k2 : (ownA h.user.data.toList).2 = 0 ↔ _ := textA_ok h.user.data.toList 31 (by omega)
  have k3 : (ownA h.group.data.toList).2 = 0 ↔ _ := textA_ok h.group.data.toList 31 (by omega)
  have k4 : (octalA 0 8).2 = 0 := by decide
  have k5 := textA_ok a 155 (by omega)
  have k6 : (textA [] 12).2 = 0 := by decide
  have p7 : (8 : Int) ^ (8 - 1) = 2097152 := by decide
  have p11 : (8 : Int) ^ (12 - 1) = 8589934592 := by decide
  rw [p7] at t1 t2 t3
  rw [p11] at t4 t5
  simp only [Int.cast_ofNat_Int] at t0 t1 t2 t3 t4 t5 k1 k2 k3 k5
  unfold layOk aheadP behindP mayA textOk smallOk greatOk
  simp only [List.forall_mem_cons, List.not_mem_nil, false_implies, implies_true, and_true]
  rw [t0, t1, t2, t3, t4, t5, k0, k1, k2, k3, k4, k5, k6, hp, hz, z1, z2, z3]
  constructor
  · rintro ⟨⟨a0, a1, a2, a3, a4, a5⟩, b0, b1, b2, b3, b4, b5, b6, b7, b8⟩
    exact ⟨b0, ⟨by omega, b7.2, a0.2⟩, b1, b3, b4, by omega, by omega, by omega, by omega, by omega⟩
  · rintro ⟨b0, ⟨_, c1, c2⟩, b1, b3, b4, a1, a2, a3, a4, a5⟩
    exact ⟨⟨⟨h3, c2⟩, by omega, by omega, by omega, by omega, by omega⟩, b0, b1, by trivial, b3, b4, by trivial, by trivial, ⟨h2, c1⟩, by trivial⟩
set_option maxRecDepth 100000 in
theorem enc_parts (h : HeadP) (a b : List UInt8) (ho : layOk (behindP h a)) : layS (aheadP h b) = aheadL h b ∧ layS (behindP h a) = behindL h a := by
  have hu := ho (ownA h.user.data.toList) (by simp [behindP])
  have hg := ho (ownA h.group.data.toList) (by simp [behindP])
  have hk := ho (kindA h.kind) (by simp [behindP])
  have e1 := own_tW _ hu
  have e2 := own_tW _ hg
  have e3 : (kindA h.kind).1 = [UInt8.ofNat h.kind] := by
    unfold kindA
    rw [if_pos ((kindA_ok _).1 hk)]
  constructor
  · unfold layS aheadP aheadL
    simp only [List.flatMap_cons, List.flatMap_nil, List.append_nil]
    rfl
  · unfold layS behindP behindL
    simp only [List.flatMap_cons, List.flatMap_nil, List.append_nil]
    rw [e1, e2, e3]
    rfl
set_option maxRecDepth 100000 in
theorem enc_whole (h : HeadP) (a b : List UInt8) : strF (aheadL h b) ++ strF (sumT (aheadL h b) (behindL h a)) ++ strF (behindL h a) = strF (headL h a b) := by
  rw [strF_app, strF_app]
  unfold headL sumT rawL
  simp only [List.append_assoc, List.cons_append, List.nil_append]
end Go.Proofs.YtiihkjloenlfmaaDoor
