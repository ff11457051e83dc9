/- Tar: plain: a file's sectors; what is read is what was written, whatever stands behind. Written ahead of stage 18. -/
import Derived.Test.YtdjmfkodjjjhfaaGreatDoorUsc
import Derived.Test.YtdjmfkodjjjhfaaGreatDoorPxa
import Derived.Test.YtdjmfkodjjjhfaaGreatDoorPt
namespace Go.Proofs.YtdjmfkodjjjhfaaGreatDoor
open Go.RowKit

def upTo (n : Nat) : Nat := (n + 511) / 512 * 512
/-- Filled up. -/
def fillL (s : List UInt8) : List UInt8 := s ++ List.replicate (upTo s.length - s.length) 0
def hdT (path : List UInt8) (kind n : Nat) : HeadP := ⟨strF path, n, kind, 420, 0, ⟨#[]⟩, ⟨#[]⟩, ⟨#[]⟩, 0, 0⟩
def partT (path : List UInt8) (kind : Nat) (data : List UInt8) : List UInt8 := (encA (hdT path kind data.length)).1 ++ fillL data
def paxN : List UInt8 := [112, 97, 120]
def pathK : List UInt8 := [112, 97, 116, 104]
def sizeK : List UInt8 := [115, 105, 122, 101]
def entT (p d : List UInt8) : List UInt8 :=
  if (splitL p).2.2 then partT p 48 d else partT paxN 120 (recL (pathK, p)) ++ partT (p.take 100) 48 d
/-- What Entry answers. -/
def entryA (p d : List UInt8) : List UInt8 × Nat := if checkL p ≠ 0 then ([], 140) else if 262144 < d.length then ([], 3) else (entT p d, 0)
/-- A header, at the beginning. -/
def headT (s : List UInt8) : Option HeadP := if s.length < 512 then none else if (decA (s.take 512)).2 = 0 then some (decA (s.take 512)).1 else none
/-- So many bytes behind a sector, and what is behind them, filled up. -/
def behindT (s : List UInt8) (n : Nat) : Option (List UInt8 × List UInt8) := if s.length < 512 + upTo n then none else some ((s.drop 512).take n, s.drop (512 + upTo n))
open Classical in
/-- The pairs of a text of records. -/
noncomputable def pairsOf (r : List UInt8) : Option (List PairL) := if h : r.length ≤ 262144 ∧ ∃ l, keysK l ∧ flatP l = r then some (Classical.choose h.2) else none
def sizeOf2 (l : List PairL) (h : HeadP) : Option Nat :=
  match lastA sizeK l none with
  | none => some h.size.toNat
  | some v => if (decimalA v).2 = 0 then some (decimalA v).1 else none
/-- A file's own header, its data, its path. -/
def fileT (l : List PairL) (s : List UInt8) : Option (List UInt8 × List UInt8 × List UInt8) :=
  match headT s with
  | none => none
  | some h => if h.kind ≠ 48 then none else
    match sizeOf2 l h with
    | none => none
    | some n => match behindT s n with
      | none => none
      | some (d, more) => if (cleanL ((lastA pathK l none).getD h.path.data.toList)).2 ≠ 0 then none else some ((cleanL ((lastA pathK l none).getD h.path.data.toList)).1, d, more)
/-- What Read answers: path, data, and what is behind. -/
noncomputable def readT (s : List UInt8) : Option (List UInt8 × List UInt8 × List UInt8) :=
  match headT s with
  | none => none
  | some h => if h.kind = 120 then
      match behindT s h.size.toNat with
      | none => none
      | some (r, more) => match pairsOf r with
        | none => none
        | some l => fileT l more
    else fileT [] s

theorem fillL_length (s : List UInt8) : (fillL s).length = upTo s.length := by
  have : s.length ≤ upTo s.length := by unfold upTo; omega
  rw [fillL, List.length_append, List.length_replicate]
  omega
theorem pairsOf_flat (l : List PairL) (hk : keysK l) (hl : (flatP l).length ≤ 262144) : pairsOf (flatP l) = some l := by
  have h : (flatP l).length ≤ 262144 ∧ ∃ m, keysK m ∧ flatP m = flatP l := ⟨hl, l, hk, rfl⟩
  unfold pairsOf
  rw [dif_pos h]
  have hc := Classical.choose_spec h.2
  rw [flat_inj _ l hc.1 hk (short_of_flat _ (by rw [hc.2]; omega)) (short_of_flat _ (by omega)) hc.2]
/-- A part is a header and its data, whatever stands behind. -/
theorem part_read {path : List UInt8} {kind : Nat} {d : List UInt8} (he : (encA (hdT path kind d.length)).2 = 0) (r : List UInt8) :
    headT (partT path kind d ++ r) = some (hdT path kind d.length) ∧ behindT (partT path kind d ++ r) d.length = some (d, r) ∧ (partT path kind d).length = 512 + upTo d.length := by
  obtain ⟨h1, h2, _⟩ := enc_dec (hdT path kind d.length) (encA (hdT path kind d.length)).1 (Prod.ext rfl he)
  have hlen : (partT path kind d).length = 512 + upTo d.length := by rw [partT, List.length_append, h2, fillL_length]
  have hle : d.length ≤ upTo d.length := by unfold upTo; omega
  have h512 : ((encA (hdT path kind d.length)).1 ++ (fillL d ++ r)).take 512 = (encA (hdT path kind d.length)).1 := List.take_left' h2
  have d512 : ((encA (hdT path kind d.length)).1 ++ (fillL d ++ r)).drop 512 = fillL d ++ r := List.drop_left' h2
  refine ⟨?_, ?_, hlen⟩
  · rw [headT, if_neg (by rw [List.length_append, hlen]; omega), partT, List.append_assoc, h512, h1]
    rfl
  · rw [behindT, if_neg (by rw [List.length_append, hlen]; omega), ← hlen, List.drop_left' rfl, partT, List.append_assoc, d512, fillL, List.append_assoc, List.take_left' rfl]
set_option maxRecDepth 100000 in
theorem may_hd (path : List UInt8) (kind n : Nat) (hk : kind = 48 ∨ kind = 120) (hp : path.length ≤ 1000) (h0 : (0 : UInt8) ∉ path) (hn : n ≤ 8589934591) : mayA (hdT path kind n) := by
  have zB : (⟨#[]⟩ : ByteArray).size ≤ 100 := by decide
  have zC : (⟨#[]⟩ : ByteArray).size ≤ 31 := by decide
  have zT : textOk (⟨#[]⟩ : ByteArray).data.toList := by decide
  have m420 : smallOk 420 := by decide
  have m0 : smallOk 0 := by decide
  have g0 : greatOk 0 := by decide
  refine ⟨by rcases hk with h | h <;> simp [hdT, h], ⟨?_, (cutZ_iff _).2 h0⟩, ⟨zB, zT⟩, ⟨zC, zT⟩, ⟨zC, zT⟩, m420, m0, m0, ⟨?_, ?_⟩, g0⟩
  · show path.length ≤ _
    omega
  · show (0 : Int) ≤ (n : Int)
    omega
  · show (n : Int) ≤ _
    omega
theorem enc_hd (path : List UInt8) (kind n : Nat) (hs : (splitL path).2.2 = true) (hne : path ≠ []) (hk : kind = 48 ∨ kind = 120) (hp : path.length ≤ 1000) (h0 : (0 : UInt8) ∉ path) (hn : n ≤ 8589934591) : (encA (hdT path kind n)).2 = 0 := by
  have hm := may_hd path kind n hk hp h0 hn
  rw [encA, if_neg, if_neg (fun h => h hm)]
  show ¬ ((splitL path).2.2 = false ∨ path = [])
  rw [hs]
  exact fun h => h.elim (fun h => by cases h) hne
theorem check_facts {p : List UInt8} (h : checkL p = 0) : cleanL p = (p, 0) ∧ p ≠ [] ∧ p.length ≤ 120 ∧ (0 : UInt8) ∉ p ∧ (61 ∈ p ∨ True) := by
  have hc : cleanL p = (p, 0) := by
    unfold checkL at h
    split at h
    · cases h
    · rename_i hn
      have h1 : (cleanL p).2 = 0 := Decidable.not_not.1 fun e => hn (.inl e)
      have h2 : (cleanL p).1 = p := Decidable.not_not.1 fun e => hn (.inr e)
      exact Prod.ext h2 h1
  obtain ⟨h1, h2, h3, _⟩ := clean_parts hc
  refine ⟨hc, h1, h2, fun h0 => ?_, .inr trivial⟩
  have := (h3 0 h0).1
  exact absurd this (by decide)
theorem split_short {p : List UInt8} (h : p.length ≤ 100) : (splitL p).2.2 = true := by rw [splitL, if_pos h]
set_option maxRecDepth 100000 in
/-- What was written is read, whatever stands behind. -/
theorem read_entry (p d : List UInt8) (hp : checkL p = 0) (hd : d.length ≤ 262144) (r : List UInt8) : readT (entT p d ++ r) = some (p, d, r) := by
  obtain ⟨hc, hne, hlen, h0, _⟩ := check_facts hp
  by_cases hs : (splitL p).2.2 = true
  · have he := enc_hd p 48 d.length hs hne (.inl rfl) (by omega) h0 (by omega)
    obtain ⟨h1, h2, _⟩ := part_read he r
    rw [entT, if_pos hs, readT, h1]
    dsimp only
    rw [if_neg (by show ¬ (48 : Nat) = 120; decide), fileT, h1]
    dsimp only
    rw [if_neg (by show ¬ (48 : Nat) ≠ 48; decide)]
    show (match behindT (partT p 48 d ++ r) d.length with
      | none => none
      | some (d, more) => if (cleanL p).2 ≠ 0 then none else some ((cleanL p).1, d, more)) = _
    rw [h2, hc]
    rfl
  · have hk : keysK [(pathK, p)] := fun q hq => by
      rw [List.mem_singleton.1 hq]
      exact (show keyK pathK by decide)
    have hrl : (recL (pathK, p)).length ≤ 1000 := by
      rw [recL_length (pathK, p) (by show pathK.length + p.length ≤ _; have : pathK.length = 4 := rfl; omega)]
      have hd6 : digN (prestL (pathK, p)).length ≤ 6 := by
        unfold digN
        repeat' split
        all_goals omega
      have : (prestL (pathK, p)).length = pathK.length + p.length + 3 := prestL_length _
      have : pathK.length = 4 := rfl
      show digN (prestL (pathK, p)).length + (prestL (pathK, p)).length ≤ _
      omega
    have hfl : flatP [(pathK, p)] = recL (pathK, p) := List.append_nil _
    have htk : (p.take 100).length ≤ 100 := by rw [List.length_take]; omega
    have hx := enc_hd paxN 120 (recL (pathK, p)).length (split_short (by decide)) (by decide) (.inr rfl) (by decide) (by decide) (by omega)
    have hy := enc_hd (p.take 100) 48 d.length (split_short htk) (fun h => by
      have h1 := congrArg List.length h
      have h2 : 0 < p.length := List.length_pos_iff.2 hne
      rw [List.length_take, List.length_nil] at h1
      omega) (.inl rfl) (by omega) (fun h => h0 (List.mem_of_mem_take h)) (by omega)
    obtain ⟨x1, x2, _⟩ := part_read hx (partT (p.take 100) 48 d ++ r)
    obtain ⟨y1, y2, _⟩ := part_read hy r
    have hpo := pairsOf_flat [(pathK, p)] hk (by rw [hfl]; omega)
    rw [hfl] at hpo
    rw [entT, if_neg hs, List.append_assoc, readT, x1]
    dsimp only
    rw [if_pos (by show (120 : Nat) = 120; rfl)]
    show (match behindT (partT paxN 120 (recL (pathK, p)) ++ (partT (p.take 100) 48 d ++ r)) (recL (pathK, p)).length with
      | none => none
      | some (r, more) => match pairsOf r with
        | none => none
        | some l => fileT l more) = _
    rw [x2]
    dsimp only
    rw [hpo]
    dsimp only
    rw [fileT, y1]
    dsimp only
    rw [if_neg (by show ¬ (48 : Nat) ≠ 48; decide)]
    show (match behindT (partT (p.take 100) 48 d ++ r) d.length with
      | none => none
      | some (d, more) => if (cleanL p).2 ≠ 0 then none else some ((cleanL p).1, d, more)) = _
    rw [y2, hc]
    rfl
end Go.Proofs.YtdjmfkodjjjhfaaGreatDoor
/- Tar: plain: files that are packed are unpacked, whatever stands behind. Written ahead of stage 18. -/
namespace Go.Proofs.YtdjmfkodjjjhfaaGreatDoor
open Go.RowKit

abbrev FileL := List UInt8 × List UInt8
def flatT : List FileL → List UInt8
  | [] => []
  | x :: l => entT x.1 x.2 ++ flatT l
/-- What Unpack answers; none: ErrTar. -/
noncomputable def unpackT : Nat → List UInt8 → Option (List FileL)
  | 0, _ => none
  | f + 1, s => if s.length < 512 then none else if zeroA (s.take 512) = true then some [] else
    match headT s with
    | none => none
    | some h => if h.kind = 53 ∨ h.kind = 103 then
        match behindT s h.size.toNat with
        | none => none
        | some (_, more) => unpackT f more
      else match readT s with
        | none => none
        | some (p, d, more) => (unpackT f more).map fun l => (p, d) :: l
/-- A part's first sector is no sector of noughts. -/
theorem part_zero {path : List UInt8} {kind : Nat} {d : List UInt8} (he : (encA (hdT path kind d.length)).2 = 0) (r : List UInt8) : zeroA ((partT path kind d ++ r).take 512) = false := by
  obtain ⟨_, h2, h3⟩ := enc_dec (hdT path kind d.length) (encA (hdT path kind d.length)).1 (Prod.ext rfl he)
  have h512 : ((encA (hdT path kind d.length)).1 ++ (fillL d ++ r)).take 512 = (encA (hdT path kind d.length)).1 := List.take_left' h2
  rw [partT, List.append_assoc, h512]
  exact h3
theorem ent_head (p d : List UInt8) (hp : checkL p = 0) (hd : d.length ≤ 262144) (r : List UInt8) : (∃ h, headT (entT p d ++ r) = some h ∧ (h.kind = 48 ∨ h.kind = 120)) ∧ zeroA ((entT p d ++ r).take 512) = false ∧ 512 ≤ (entT p d).length := by
  obtain ⟨hc, hne, hlen, h0, _⟩ := check_facts hp
  by_cases hs : (splitL p).2.2 = true
  · have he := enc_hd p 48 d.length hs hne (.inl rfl) (by omega) h0 (by omega)
    obtain ⟨h1, _, h3⟩ := part_read he r
    rw [entT, if_pos hs]
    exact ⟨⟨_, h1, .inl rfl⟩, part_zero he r, by omega⟩
  · have hl : (recL (pathK, p)).length ≤ 1000 := by
      rw [recL_length (pathK, p) (by show pathK.length + p.length ≤ _; have : pathK.length = 4 := rfl; omega)]
      have hd6 : digN (prestL (pathK, p)).length ≤ 6 := by
        unfold digN
        repeat' split
        all_goals omega
      have : (prestL (pathK, p)).length = pathK.length + p.length + 3 := prestL_length _
      have : pathK.length = 4 := rfl
      show digN (prestL (pathK, p)).length + (prestL (pathK, p)).length ≤ _
      omega
    have hx := enc_hd paxN 120 (recL (pathK, p)).length (split_short (by decide)) (by decide) (.inr rfl) (by decide) (by decide) (by omega)
    obtain ⟨x1, _, x3⟩ := part_read hx (partT (p.take 100) 48 d ++ r)
    have x4 := part_zero hx (partT (p.take 100) 48 d ++ r)
    rw [entT, if_neg hs, List.append_assoc, List.length_append]
    exact ⟨⟨_, x1, .inr rfl⟩, x4, by omega⟩
theorem zeros_head (r : List UInt8) : zeroA ((List.replicate 1024 0 ++ r).take 512) = true := by
  rw [List.take_append_of_le_length (by rw [List.length_replicate]; omega), List.take_replicate]
  decide +kernel
set_option maxRecDepth 100000 in
/-- Files that are packed are unpacked. -/
theorem unpack_pack (r : List UInt8) : ∀ (l : List FileL) (f : Nat), (∀ x, x ∈ l → checkL x.1 = 0 ∧ x.2.length ≤ 262144) → l.length < f → unpackT f (flatT l ++ (List.replicate 1024 0 ++ r)) = some l
  | [], 0, _, h => by cases h
  | [], f + 1, _, _ => by
    rw [flatT, List.nil_append, unpackT, if_neg (by rw [List.length_append, List.length_replicate]; omega), if_pos (zeros_head r)]
  | x :: l, 0, _, h => by cases h
  | x :: l, f + 1, hx, h => by
    obtain ⟨h1, h2⟩ := hx x List.mem_cons_self
    obtain ⟨⟨g, hg, hk⟩, hz, hl⟩ := ent_head x.1 x.2 h1 h2 (flatT l ++ (List.replicate 1024 0 ++ r))
    have ih := unpack_pack r l f (fun y hy => hx y (List.mem_cons_of_mem _ hy)) (by
      rw [List.length_cons] at h
      omega)
    have hr := read_entry x.1 x.2 h1 h2 (flatT l ++ (List.replicate 1024 0 ++ r))
    rw [flatT, List.append_assoc, unpackT, if_neg (by rw [List.length_append]; omega), if_neg (by rw [hz]; exact Bool.false_ne_true), hg]
    dsimp only
    rw [if_neg (by rcases hk with hk | hk <;> rw [hk] <;> decide), hr]
    dsimp only
    rw [ih]
    rfl
theorem fill_mod (n : Nat) : upTo n % 512 = 0 := Nat.mul_mod_left _ _
theorem ent_mod (p d : List UInt8) (hp : checkL p = 0) (hd : d.length ≤ 262144) : (entT p d).length % 512 = 0 ∧ (entT p d).length ≤ 2560 + d.length := by
  obtain ⟨hc, hne, hlen, h0, _⟩ := check_facts hp
  have hup : upTo d.length ≤ d.length + 511 := by unfold upTo; omega
  by_cases hs : (splitL p).2.2 = true
  · have he := enc_hd p 48 d.length hs hne (.inl rfl) (by omega) h0 (by omega)
    obtain ⟨_, _, h3⟩ := part_read he []
    have hm := fill_mod d.length
    rw [entT, if_pos hs]
    omega
  · have hl : (recL (pathK, p)).length ≤ 512 := by
      rw [recL_length (pathK, p) (by show pathK.length + p.length ≤ _; have : pathK.length = 4 := rfl; omega)]
      have hd6 : digN (prestL (pathK, p)).length ≤ 6 := by
        unfold digN
        repeat' split
        all_goals omega
      have : (prestL (pathK, p)).length = pathK.length + p.length + 3 := prestL_length _
      have : pathK.length = 4 := rfl
      show digN (prestL (pathK, p)).length + (prestL (pathK, p)).length ≤ _
      omega
    have htk : (p.take 100).length ≤ 100 := by rw [List.length_take]; omega
    have hx := enc_hd paxN 120 (recL (pathK, p)).length (split_short (by decide)) (by decide) (.inr rfl) (by decide) (by decide) (by omega)
    have hy := enc_hd (p.take 100) 48 d.length (split_short htk) (fun h => by
      have h1 := congrArg List.length h
      have h2 : 0 < p.length := List.length_pos_iff.2 hne
      rw [List.length_take, List.length_nil] at h1
      omega) (.inl rfl) (by omega) (fun h => h0 (List.mem_of_mem_take h)) (by omega)
    obtain ⟨_, _, x3⟩ := part_read hx []
    obtain ⟨_, _, y3⟩ := part_read hy []
    have hm := fill_mod d.length
    have hm2 := fill_mod (recL (pathK, p)).length
    have hup2 : upTo (recL (pathK, p)).length ≤ 512 := by unfold upTo; omega
    rw [entT, if_neg hs, List.length_append]
    omega
end Go.Proofs.YtdjmfkodjjjhfaaGreatDoor
/- Tar: plain: the last files, in order; a list that rises and has the same last values is one. Written ahead of stage 18. -/
namespace Go.Proofs.YtdjmfkodjjjhfaaGreatDoor
open Go.RowKit

/-- A file put where it belongs, in the place of an earlier one. -/
def insT (x : FileL) : List FileL → List FileL
  | [] => [x]
  | y :: out => if cmpL x.1 y.1 = -1 then x :: y :: out else if x.1 = y.1 then x :: out else y :: insT x out
def lastsT (l : List FileL) : List FileL := l.foldl (fun out x => insT x out) []
def riseT : List FileL → Prop := List.Pairwise fun a b => cmpL a.1 b.1 = -1
set_option maxRecDepth 100000 in
theorem cmp_less {a b c : List UInt8} (h1 : cmpL a b = -1) (h2 : cmpL b c = -1) : cmpL a c = -1 := by
  have h3 : cmpL a c ≤ 0 := cmp_trans (b := b) (by omega) (by omega)
  rcases cmp_three a c with h | h | h
  · exact h
  · have e := cmp_zero.1 h
    rw [← e, cmp_turn a b, h1] at h2
    cases h2
  · omega
set_option maxRecDepth 100000 in
theorem cmp_not {a b : List UInt8} (h1 : ¬ cmpL a b = -1) (h2 : ¬ a = b) : cmpL b a = -1 := by
  rcases cmp_three a b with h | h | h
  · exact absurd h h1
  · exact absurd (cmp_zero.1 h) h2
  · rw [cmp_turn a b, h]
set_option maxRecDepth 100000 in
theorem insT_mem (x : FileL) : ∀ (out : List FileL) (z : FileL), z ∈ insT x out → z = x ∨ z ∈ out
  | [], z, h => .inl (List.mem_singleton.1 h)
  | y :: out, z, h => by
    rw [insT] at h
    split at h
    · exact (List.mem_cons.1 h)
    · split at h
      · exact (List.mem_cons.1 h).imp id fun h => List.mem_cons_of_mem _ h
      · rcases List.mem_cons.1 h with h | h
        · exact .inr (by rw [h]; exact List.mem_cons_self)
        · exact (insT_mem x out z h).imp id fun h => List.mem_cons_of_mem _ h
set_option maxRecDepth 100000 in
theorem insT_rise (x : FileL) : ∀ out : List FileL, riseT out → riseT (insT x out)
  | [], _ => List.pairwise_singleton _ _
  | y :: out, h => by
    obtain ⟨hy, ho⟩ := List.pairwise_cons.1 h
    rw [insT]
    by_cases h1 : cmpL x.1 y.1 = -1
    · rw [if_pos h1]
      refine List.pairwise_cons.2 ⟨fun z hz => ?_, h⟩
      rcases List.mem_cons.1 hz with hz | hz
      · rw [hz]; exact h1
      · exact cmp_less h1 (hy z hz)
    · rw [if_neg h1]
      by_cases h2 : x.1 = y.1
      · rw [if_pos h2]
        exact List.pairwise_cons.2 ⟨fun z hz => by rw [h2]; exact hy z hz, ho⟩
      · rw [if_neg h2]
        refine List.pairwise_cons.2 ⟨fun z hz => ?_, insT_rise x out ho⟩
        rcases insT_mem x out z hz with hz | hz
        · rw [hz]; exact cmp_not h1 h2
        · exact hy z hz
theorem lastA_not (k : List UInt8) : ∀ (l : List FileL) (v : Option (List UInt8)), (∀ x, x ∈ l → x.1 ≠ k) → lastA k l v = v
  | [], _, _ => rfl
  | x :: l, v, h => by
    rw [lastA, if_neg (h x List.mem_cons_self), lastA_not k l v fun y hy => h y (List.mem_cons_of_mem _ hy)]
theorem self_less {a : List UInt8} (h : cmpL a a = -1) : False := by
  have := cmp_zero.2 (rfl : a = a)
  omega
set_option maxRecDepth 100000 in
theorem insT_last (k : List UInt8) (x : FileL) : ∀ (out : List FileL), riseT out → lastA k (insT x out) none = if x.1 = k then some x.2 else lastA k out none
  | [], _ => rfl
  | y :: out, h => by
    obtain ⟨hy, ho⟩ := List.pairwise_cons.1 h
    rw [insT]
    by_cases h1 : cmpL x.1 y.1 = -1
    · rw [if_pos h1, lastA]
      by_cases hk : x.1 = k
      · rw [if_pos hk, if_pos hk]
        refine lastA_not k (y :: out) _ fun z hz e => ?_
        rcases List.mem_cons.1 hz with hz | hz
        · rw [hz] at e
          rw [e, ← hk] at h1
          exact self_less h1
        · have := cmp_less h1 (hy z hz)
          rw [e, ← hk] at this
          exact self_less this
      · rw [if_neg hk, if_neg hk]
    · rw [if_neg h1]
      by_cases h2 : x.1 = y.1
      · rw [if_pos h2, lastA]
        by_cases hk : x.1 = k
        · rw [if_pos hk, if_pos hk]
          refine lastA_not k out _ fun z hz e => ?_
          have := hy z hz
          rw [e, ← hk, h2] at this
          exact self_less this
        · rw [if_neg hk, if_neg hk, lastA, if_neg (by rw [← h2]; exact hk)]
      · rw [if_neg h2, lastA, lastA]
        by_cases hk : x.1 = k
        · rw [if_neg (fun e => h2 (by rw [hk, e])), insT_last k x out ho, if_pos hk]
        · rw [lastA_some k (insT x out), insT_last k x out ho, if_neg hk, if_neg hk, ← lastA_some k out]
theorem lasts_from (k : List UInt8) : ∀ (l out : List FileL), riseT out → riseT (l.foldl (fun out x => insT x out) out) ∧ lastA k (l.foldl (fun out x => insT x out) out) none = lastA k l (lastA k out none)
  | [], out, h => ⟨h, rfl⟩
  | x :: l, out, h => by
    rw [List.foldl_cons, lastA]
    obtain ⟨h1, h2⟩ := lasts_from k l (insT x out) (insT_rise x out h)
    exact ⟨h1, by rw [h2, insT_last k x out h]⟩
/-- The last files rise, and have each path's last data. -/
theorem lasts_is (l : List FileL) : riseT (lastsT l) ∧ ∀ k, lastA k (lastsT l) none = lastA k l none :=
  ⟨(lasts_from [] l [] List.Pairwise.nil).1, fun k => (lasts_from k l [] List.Pairwise.nil).2⟩
/-- Of lists that rise, one alone has the same last data. -/
theorem rise_one : ∀ (a b : List FileL), riseT a → riseT b → (∀ k, lastA k a none = lastA k b none) → a = b
  | [], [], _, _, _ => rfl
  | [], y :: b, _, hb, h => by
    obtain ⟨hy, _⟩ := List.pairwise_cons.1 hb
    have := h y.1
    rw [lastA, lastA, if_pos rfl, lastA_not y.1 b _ fun z hz e => self_less (by have := hy z hz; rw [e] at this; exact this)] at this
    cases this
  | x :: a, [], ha, _, h => by
    obtain ⟨hx, _⟩ := List.pairwise_cons.1 ha
    have := h x.1
    rw [lastA, lastA, if_pos rfl, lastA_not x.1 a _ fun z hz e => self_less (by have := hx z hz; rw [e] at this; exact this)] at this
    cases this
  | x :: a, y :: b, ha, hb, h => by
    obtain ⟨hx, ha2⟩ := List.pairwise_cons.1 ha
    obtain ⟨hy, hb2⟩ := List.pairwise_cons.1 hb
    have nx : ∀ z, z ∈ a → z.1 ≠ x.1 := fun z hz e => self_less (by have := hx z hz; rw [e] at this; exact this)
    have ny : ∀ z, z ∈ b → z.1 ≠ y.1 := fun z hz e => self_less (by have := hy z hz; rw [e] at this; exact this)
    have kx := h x.1
    have ky := h y.1
    rw [lastA, if_pos rfl, lastA_not x.1 a _ nx, lastA] at kx
    rw [lastA, lastA, if_pos rfl, lastA_not y.1 b _ ny] at ky
    have hxy : x.1 = y.1 := by
      refine Decidable.byContradiction fun hne => ?_
      rw [if_neg (fun e => hne e.symm)] at kx
      rw [if_neg hne] at ky
      have i1 : ∃ z, z ∈ b ∧ z.1 = x.1 := Decidable.byContradiction fun hn => by
        rw [lastA_not x.1 b none fun z hz e => hn ⟨z, hz, e⟩] at kx
        cases kx
      have i2 : ∃ z, z ∈ a ∧ z.1 = y.1 := Decidable.byContradiction fun hn => by
        rw [lastA_not y.1 a none fun z hz e => hn ⟨z, hz, e⟩] at ky
        cases ky
      obtain ⟨z, hz, e⟩ := i1
      obtain ⟨u, hu, e2⟩ := i2
      have j1 := hy z hz
      have j2 := hx u hu
      rw [e] at j1
      rw [e2] at j2
      exact self_less (cmp_less j1 j2)
    rw [if_pos hxy.symm, hxy, lastA_not y.1 b _ ny] at kx
    have h2 : x.2 = y.2 := Option.some.inj kx
    have ht : a = b := rise_one a b ha2 hb2 fun k => by
      have hk := h k
      rw [lastA, lastA, hxy, h2] at hk
      by_cases e : y.1 = k
      · rw [lastA_not k a none fun z hz e2 => nx z hz (by rw [e2, ← e, hxy]), lastA_not k b none fun z hz e2 => ny z hz (by rw [e2, ← e])]
      · rw [if_neg e] at hk
        exact hk
    rw [ht, Prod.ext hxy h2]
end Go.Proofs.YtdjmfkodjjjhfaaGreatDoor
/- Tar: plain: cut files are none; the last ones are their own last ones; what the calls answer. Written ahead of stage 18. -/
namespace Go.Proofs.YtdjmfkodjjjhfaaGreatDoor
open Go.RowKit

theorem headT_at {s t : List UInt8} (h1 : 512 ≤ s.length) (h2 : 512 ≤ t.length) (h : s.take 512 = t.take 512) : headT s = headT t := by
  unfold headT
  rw [if_neg (show ¬ s.length < 512 by omega), if_neg (show ¬ t.length < 512 by omega), h]
theorem take_512 (s : List UInt8) (k : Nat) (h : 512 ≤ k) : (s.take k).take 512 = s.take 512 := by rw [List.take_take, Nat.min_eq_left h]
theorem behindT_no {s : List UInt8} {n : Nat} (h : s.length < 512 + upTo n) : behindT s n = none := by rw [behindT, if_pos h]
theorem size_one (p : List UInt8) (h : HeadP) : sizeOf2 [(pathK, p)] h = some h.size.toNat := by
  unfold sizeOf2
  rw [show lastA sizeK [(pathK, p)] none = none from by rw [lastA, lastA, if_neg (show ¬ pathK = sizeK by decide)]]
theorem rec_len (p : List UInt8) (h : p.length ≤ 120) : (recL (pathK, p)).length ≤ 512 := by
  have hk : pathK.length = 4 := rfl
  rw [recL_length (pathK, p) (by show pathK.length + p.length ≤ _; omega)]
  have hd6 : digN (prestL (pathK, p)).length ≤ 6 := by
    unfold digN
    repeat' split
    all_goals omega
  have : (prestL (pathK, p)).length = pathK.length + p.length + 3 := prestL_length _
  show digN (prestL (pathK, p)).length + (prestL (pathK, p)).length ≤ _
  omega
set_option maxRecDepth 100000 in
/-- A file of which the end is cut off is none. -/
theorem read_cut (p d : List UInt8) (hp : checkL p = 0) (hd : d.length ≤ 262144) (k : Nat) (h512 : 512 ≤ k) (hk : k < (entT p d).length) : readT ((entT p d).take k) = none := by
  obtain ⟨hc, hne, hlen, h0, _⟩ := check_facts hp
  have hlk : ((entT p d).take k).length = k := by rw [List.length_take]; omega
  by_cases hs : (splitL p).2.2 = true
  · have he := enc_hd p 48 d.length hs hne (.inl rfl) (by omega) h0 (by omega)
    obtain ⟨h1, _, h3⟩ := part_read he []
    rw [List.append_nil] at h1
    have hE : entT p d = partT p 48 d := by rw [entT, if_pos hs]
    rw [hE] at hk hlk ⊢
    have hh : headT ((partT p 48 d).take k) = some (hdT p 48 d.length) := by
      rw [← h1]
      exact headT_at (by omega) (by omega) (take_512 _ _ h512)
    rw [readT, hh]
    dsimp only
    rw [if_neg (by show ¬ (48 : Nat) = 120; decide), fileT, hh]
    dsimp only
    rw [if_neg (by show ¬ (48 : Nat) ≠ 48; decide)]
    show (match behindT ((partT p 48 d).take k) d.length with
      | none => none
      | some (d, more) => _) = _
    rw [behindT_no (by omega)]
  · have htk : (p.take 100).length ≤ 100 := by rw [List.length_take]; omega
    have hrl := rec_len p hlen
    have hx := enc_hd paxN 120 (recL (pathK, p)).length (split_short (by decide)) (by decide) (.inr rfl) (by decide) (by decide) (by omega)
    have hy := enc_hd (p.take 100) 48 d.length (split_short htk) (fun h => by
      have h1 := congrArg List.length h
      have h2 : 0 < p.length := List.length_pos_iff.2 hne
      rw [List.length_take, List.length_nil] at h1
      omega) (.inl rfl) (by omega) (fun h => h0 (List.mem_of_mem_take h)) (by omega)
    have hE : entT p d = partT paxN 120 (recL (pathK, p)) ++ partT (p.take 100) 48 d := by rw [entT, if_neg hs]
    obtain ⟨y1, _, y3⟩ := part_read hy []
    rw [List.append_nil] at y1
    by_cases hA : k < (partT paxN 120 (recL (pathK, p))).length
    · obtain ⟨x1, _, x3⟩ := part_read hx (partT (p.take 100) 48 d)
      rw [hE] at hk hlk ⊢
      have hh : headT ((partT paxN 120 (recL (pathK, p)) ++ partT (p.take 100) 48 d).take k) = some (hdT paxN 120 (recL (pathK, p)).length) := by
        rw [← x1]
        exact headT_at (by omega) (by omega) (take_512 _ _ h512)
      rw [readT, hh]
      dsimp only
      rw [if_pos (by show (120 : Nat) = 120; rfl)]
      show (match behindT ((partT paxN 120 (recL (pathK, p)) ++ partT (p.take 100) 48 d).take k) (recL (pathK, p)).length with
        | none => none
        | some (r, more) => _) = _
      rw [behindT_no (by omega)]
    · obtain ⟨j, hj⟩ : ∃ j, j = k - (partT paxN 120 (recL (pathK, p))).length := ⟨_, rfl⟩
      have hT : (entT p d).take k = partT paxN 120 (recL (pathK, p)) ++ (partT (p.take 100) 48 d).take j := by
        rw [hE, List.take_append, List.take_of_length_le (by omega), hj]
      have hjl : j < (partT (p.take 100) 48 d).length := by
        rw [hE, List.length_append] at hk
        omega
      have hjl2 : ((partT (p.take 100) 48 d).take j).length = j := by rw [List.length_take]; omega
      obtain ⟨x1, x2, _⟩ := part_read hx ((partT (p.take 100) 48 d).take j)
      have hkk : keysK [(pathK, p)] := fun q hq => by
        rw [List.mem_singleton.1 hq]
        exact (show keyK pathK by decide)
      have hfl : flatP [(pathK, p)] = recL (pathK, p) := List.append_nil _
      have hpo := pairsOf_flat [(pathK, p)] hkk (by rw [hfl]; omega)
      rw [hfl] at hpo
      rw [hT, readT, x1]
      dsimp only
      rw [if_pos (by show (120 : Nat) = 120; rfl)]
      show (match behindT (partT paxN 120 (recL (pathK, p)) ++ (partT (p.take 100) 48 d).take j) (recL (pathK, p)).length with
        | none => none
        | some (r, more) => match pairsOf r with
          | none => none
          | some l => fileT l more) = _
      rw [x2]
      dsimp only
      rw [hpo]
      dsimp only
      by_cases h5 : j < 512
      · have hh : headT ((partT (p.take 100) 48 d).take j) = none := by rw [headT, if_pos (by omega)]
        rw [fileT, hh]
      · have hh : headT ((partT (p.take 100) 48 d).take j) = some (hdT (p.take 100) 48 d.length) := by
          rw [← y1]
          exact headT_at (by omega) (by omega) (take_512 _ _ (by omega))
        rw [fileT, hh]
        dsimp only
        rw [if_neg (by show ¬ (48 : Nat) ≠ 48; decide), size_one]
        show (match behindT ((partT (p.take 100) 48 d).take j) d.length with
          | none => none
          | some (d, more) => _) = _
        rw [behindT_no (by omega)]
set_option maxRecDepth 100000 in
/-- Packed files that are cut off ahead of their noughts are none. -/
theorem unpack_cut : ∀ (l : List FileL) (f k : Nat), (∀ x, x ∈ l → checkL x.1 = 0 ∧ x.2.length ≤ 262144) → k < (flatT l).length + 512 → unpackT f ((flatT l ++ List.replicate 1024 0).take k) = none
  | _, 0, _, _, _ => rfl
  | [], f + 1, k, _, h => by
    rw [unpackT, if_pos]
    rw [List.length_take]
    have : (flatT []).length = 0 := rfl
    omega
  | x :: l, f + 1, k, hx, h => by
    obtain ⟨h1, h2⟩ := hx x List.mem_cons_self
    have hlen : (flatT (x :: l)).length = (entT x.1 x.2).length + (flatT l).length := List.length_append
    have hT : flatT (x :: l) ++ List.replicate 1024 0 = entT x.1 x.2 ++ (flatT l ++ List.replicate 1024 0) := List.append_assoc _ _ _
    obtain ⟨⟨g, hg, hkd⟩, hz, hl⟩ := ent_head x.1 x.2 h1 h2 (flatT l ++ List.replicate 1024 0)
    by_cases h5 : k < 512
    · rw [unpackT, if_pos]
      rw [List.length_take]
      omega
    have hlk : ((flatT (x :: l) ++ List.replicate 1024 0).take k).length = k := by
      rw [List.length_take, List.length_append, List.length_replicate]
      omega
    have hhd : headT ((flatT (x :: l) ++ List.replicate 1024 0).take k) = some g := by
      rw [← hg, ← hT]
      exact headT_at (by omega) (by rw [List.length_append]; omega) (take_512 _ _ (by omega))
    rw [unpackT, if_neg (by omega), if_neg (by rw [take_512 _ _ (by omega), hT, hz]; exact Bool.false_ne_true), hhd]
    dsimp only
    rw [if_neg (by rcases hkd with hk | hk <;> rw [hk] <;> decide)]
    by_cases hA : k < (entT x.1 x.2).length
    · have hE : (flatT (x :: l) ++ List.replicate 1024 0).take k = (entT x.1 x.2).take k := by
        rw [hT, List.take_append_of_le_length (by omega)]
      rw [hE, read_cut x.1 x.2 h1 h2 k (by omega) hA]
    · have hE : (flatT (x :: l) ++ List.replicate 1024 0).take k = entT x.1 x.2 ++ (flatT l ++ List.replicate 1024 0).take (k - (entT x.1 x.2).length) := by
        rw [hT, List.take_append, List.take_of_length_le (by omega)]
      rw [hE, read_entry x.1 x.2 h1 h2]
      dsimp only
      rw [unpack_cut l f (k - (entT x.1 x.2).length) (fun y hy => hx y (List.mem_cons_of_mem _ hy)) (by omega)]
      rfl
set_option maxRecDepth 100000 in
/-- .. and cut behind the first sector of noughts they are the same. -/
theorem unpack_take (l : List FileL) (f k : Nat) (hx : ∀ x, x ∈ l → checkL x.1 = 0 ∧ x.2.length ≤ 262144) (hk : (flatT l).length + 512 ≤ k) (hf : l.length < f) : unpackT f ((flatT l ++ List.replicate 1024 0).take k) = some l := by
  induction l generalizing f k with
  | nil =>
    cases f with
    | zero => cases hf
    | succ f =>
      rw [unpackT, if_neg (by rw [List.length_take, List.length_append, List.length_replicate]; have : (flatT []).length = 0 := rfl; omega), if_pos]
      rw [take_512 _ _ (by have : (flatT []).length = 0 := rfl; omega), ← List.append_nil (flatT [] ++ List.replicate 1024 0)]
      exact zeros_head []
  | cons x l ih =>
    cases f with
    | zero => cases hf
    | succ f =>
      obtain ⟨h1, h2⟩ := hx x List.mem_cons_self
      have hlen : (flatT (x :: l)).length = (entT x.1 x.2).length + (flatT l).length := List.length_append
      have hE : (flatT (x :: l) ++ List.replicate 1024 0).take k = entT x.1 x.2 ++ (flatT l ++ List.replicate 1024 0).take (k - (entT x.1 x.2).length) := by
        rw [show flatT (x :: l) ++ List.replicate 1024 0 = entT x.1 x.2 ++ (flatT l ++ List.replicate 1024 0) from List.append_assoc _ _ _, List.take_append, List.take_of_length_le (by omega)]
      obtain ⟨⟨g, hg, hkd⟩, hz, hl⟩ := ent_head x.1 x.2 h1 h2 ((flatT l ++ List.replicate 1024 0).take (k - (entT x.1 x.2).length))
      rw [hE, unpackT, if_neg (by rw [List.length_append]; omega), if_neg (by rw [hz]; exact Bool.false_ne_true), hg]
      dsimp only
      rw [if_neg (by rcases hkd with hk | hk <;> rw [hk] <;> decide), read_entry x.1 x.2 h1 h2]
      dsimp only
      rw [ih f _ (fun y hy => hx y (List.mem_cons_of_mem _ hy)) (by omega) (by rw [List.length_cons] at hf; omega)]
      rfl
theorem flat_mod (l : List FileL) (hx : ∀ x, x ∈ l → checkL x.1 = 0 ∧ x.2.length ≤ 262144) : (flatT l).length % 512 = 0 := by
  induction l with
  | nil => rfl
  | cons x l ih =>
    have h1 := (ent_mod x.1 x.2 (hx x List.mem_cons_self).1 (hx x List.mem_cons_self).2).1
    have h2 := ih fun y hy => hx y (List.mem_cons_of_mem _ hy)
    have h3 : (flatT (x :: l)).length = (entT x.1 x.2).length + (flatT l).length := List.length_append
    omega
/-- Few files, short ones: what the laws look at. -/
def lightT : List FileL → Nat → Bool
  | [], _ => true
  | x :: l, n => if 40000 < n + (x.1.length + x.2.length + 1000) then false else lightT l (n + (x.1.length + x.2.length + 1000))
set_option maxRecDepth 100000 in
theorem light_sum : ∀ (l : List FileL) (n : Nat), lightT l n = true → n ≤ 40000 → n + 1000 * l.length ≤ 40000 ∧ ∀ x, x ∈ l → x.1.length + x.2.length ≤ 40000
  | [], n, _, h => ⟨h, fun x hx => by cases hx⟩
  | x :: l, n, h, hn => by
    rw [lightT] at h
    split at h
    · cases h
    · rename_i hp
      obtain ⟨h1, h2⟩ := light_sum l _ h (by omega)
      refine ⟨by rw [List.length_cons]; omega, fun y hy => ?_⟩
      rcases List.mem_cons.1 hy with hy | hy
      · rw [hy]; omega
      · exact h2 y hy
set_option maxRecDepth 100000 in
theorem light_flatT : ∀ (l : List FileL) (n : Nat), lightT l n = true → n ≤ 40000 → (∀ x, x ∈ l → checkL x.1 = 0 ∧ x.2.length ≤ 262144) → 5 * n + (flatT l).length ≤ 200000
  | [], n, _, h, _ => by
    have : (flatT []).length = 0 := rfl
    omega
  | x :: l, n, h, hn, hx => by
    rw [lightT] at h
    split at h
    · cases h
    · rename_i hp
      have ih := light_flatT l _ h (by omega) fun y hy => hx y (List.mem_cons_of_mem _ hy)
      have h1 := (ent_mod x.1 x.2 (hx x List.mem_cons_self).1 (hx x List.mem_cons_self).2).2
      have h3 : (flatT (x :: l)).length = (entT x.1 x.2).length + (flatT l).length := List.length_append
      omega
/-- What Pack answers: the first error; else all files' sectors, two sectors of noughts. -/
def packE : List FileL → Nat
  | [] => 0
  | x :: l => if checkL x.1 ≠ 0 then 140 else if 262144 < x.2.length then 3 else packE l
def packA (l : List FileL) : List UInt8 × Nat := if packE l ≠ 0 then ([], packE l) else (flatT l ++ List.replicate 1024 0, 0)
set_option maxRecDepth 100000 in
theorem packE_ok : ∀ l : List FileL, packE l = 0 ↔ ∀ x, x ∈ l → checkL x.1 = 0 ∧ x.2.length ≤ 262144
  | [] => ⟨fun _ x hx => (by cases hx), fun _ => rfl⟩
  | x :: l => by
    rw [packE]
    split
    · rename_i h
      exact ⟨fun h2 => (by cases h2), fun h2 => absurd (h2 x List.mem_cons_self).1 h⟩
    · split
      · rename_i h
        exact ⟨fun h2 => (by cases h2), fun h2 => absurd (h2 x List.mem_cons_self).2 (by omega)⟩
      · rename_i h1 h2
        rw [packE_ok l]
        constructor
        · intro h y hy
          rcases List.mem_cons.1 hy with hy | hy
          · rw [hy]; exact ⟨Decidable.not_not.1 h1, by omega⟩
          · exact h y hy
        · exact fun h y hy => h y (List.mem_cons_of_mem _ hy)
/-- What Read answers: the file, how many bytes it has, the error. -/
noncomputable def readA (s : List UInt8) : FileL × Nat × Nat :=
  match readT s with
  | none => (([], []), 0, 180)
  | some (p, d, more) => ((p, d), s.length - more.length, 0)
noncomputable def unpackA (s : List UInt8) : List FileL × Nat :=
  if 524288 < s.length then ([], 3) else match unpackT (s.length + 1) s with
  | none => ([], 180)
  | some l => (l, 0)
set_option maxRecDepth 100000 in
theorem lastA_none (k : List UInt8) : ∀ (l : List FileL), lastA k l none = none ↔ ∀ x, x ∈ l → x.1 ≠ k := by
  intro l
  induction l with
  | nil => exact ⟨fun _ x hx => (by cases hx), fun _ => rfl⟩
  | cons y l ih =>
    rw [lastA, lastA_some]
    constructor
    · intro h x hx
      rw [Option.or_eq_none_iff] at h
      rcases List.mem_cons.1 hx with hx | hx
      · rw [hx]
        intro e
        rw [if_pos e] at h
        cases h.2
      · exact ih.1 h.1 x hx
    · intro h
      rw [ih.2 fun x hx => h x (List.mem_cons_of_mem _ hx), if_neg (h y List.mem_cons_self)]
      rfl
theorem lasts_self {a : List FileL} (h : riseT a) : lastsT a = a := rise_one _ _ (lasts_is a).1 h (lasts_is a).2
theorem lasts_more (more l : List FileL) (h : ∀ x, x ∈ more → ∃ y, y ∈ l ∧ y.1 = x.1) : lastsT (more ++ l) = lastsT l := by
  refine rise_one _ _ (lasts_is _).1 (lasts_is _).1 fun k => ?_
  rw [(lasts_is _).2, (lasts_is _).2, lastA_append, lastA_some]
  cases hk : lastA k l none with
  | some v => rfl
  | none =>
    rw [Option.none_or]
    refine (lastA_none k more).2 fun x hx e => ?_
    obtain ⟨y, hy, he⟩ := h x hx
    exact (lastA_none k l).1 hk y hy (by rw [he, e])
set_option maxRecDepth 100000 in
theorem rise_le : ∀ (b a : List FileL), riseT a → riseT b → (∀ x, x ∈ a → ∃ y, y ∈ b ∧ y.1 = x.1) → a.length ≤ b.length
  | [], [], _, _, _ => Nat.le_refl _
  | [], x :: a, _, _, h => by
    obtain ⟨y, hy, _⟩ := h x List.mem_cons_self
    cases hy
  | y :: b, [], _, _, _ => Nat.zero_le _
  | y :: b, x :: a, ha, hb, h => by
    obtain ⟨hx, ha2⟩ := List.pairwise_cons.1 ha
    obtain ⟨hy, hb2⟩ := List.pairwise_cons.1 hb
    by_cases e : y.1 = x.1
    · have := rise_le b a ha2 hb2 fun z hz => by
        obtain ⟨u, hu, he⟩ := h z (List.mem_cons_of_mem _ hz)
        rcases List.mem_cons.1 hu with hu | hu
        · exfalso
          have h1 := hx z hz
          rw [← he, hu, e] at h1
          exact self_less h1
        · exact ⟨u, hu, he⟩
      rw [List.length_cons, List.length_cons]
      omega
    · have := rise_le b (x :: a) ha hb2 fun z hz => by
        obtain ⟨u, hu, he⟩ := h z hz
        rcases List.mem_cons.1 hu with hu | hu
        · exfalso
          obtain ⟨u2, hu2, he2⟩ := h x List.mem_cons_self
          rcases List.mem_cons.1 hu2 with hu2 | hu2
          · exact e (by rw [← hu2]; exact he2)
          · have h1 := hy u2 hu2
            rw [he2] at h1
            rcases List.mem_cons.1 hz with hz | hz
            · rw [← hz, ← he, hu] at h1
              exact self_less h1
            · have h2 := cmp_less h1 (hx z hz)
              rw [← he, hu] at h2
              exact self_less h2
        · exact ⟨u, hu, he⟩
      show _ ≤ b.length + 1
      omega
theorem lasts_len (more l : List FileL) : (lastsT l).length ≤ (lastsT (more ++ l)).length := by
  refine rise_le _ _ (lasts_is _).1 (lasts_is _).1 fun x hx => ?_
  refine Decidable.byContradiction fun hn => ?_
  have h1 : lastA x.1 (lastsT (more ++ l)) none = none := (lastA_none _ _).2 fun y hy e => hn ⟨y, hy, e⟩
  rw [(lasts_is _).2, lastA_append, lastA_some, Option.or_eq_none_iff, ← (lasts_is l).2] at h1
  exact (lastA_none _ _).1 h1.1 x hx rfl
/-- Is the last one of x's path x? -/
def inF (x : FileL) : List FileL → Bool → Bool
  | [], b => b
  | y :: l, b => inF x l (if y.1 = x.1 then decide (y = x) else b)
set_option maxRecDepth 100000 in
theorem inF_last (x : FileL) : ∀ (l : List FileL) (b : Bool), inF x l b = match lastA x.1 l none with
    | none => b
    | some v => decide (v = x.2)
  | [], b => rfl
  | y :: l, b => by
    rw [inF, inF_last x l, lastA, lastA_some x.1 l (if y.1 = x.1 then some y.2 else none)]
    cases lastA x.1 l none with
    | some v => rfl
    | none =>
      rw [Option.none_or]
      by_cases e : y.1 = x.1
      · rw [if_pos e, if_pos e]
        dsimp only
        rw [decide_eq_decide]
        exact ⟨fun h => congrArg Prod.snd h, fun h => Prod.ext e h⟩
      · rw [if_neg e, if_neg e]
set_option maxRecDepth 100000 in
theorem rise_last {a : List FileL} (h : riseT a) {x : FileL} (hx : x ∈ a) : lastA x.1 a none = some x.2 := by
  induction a with
  | nil => cases hx
  | cons y a ih =>
    obtain ⟨hy, ha⟩ := List.pairwise_cons.1 h
    rw [lastA]
    rcases List.mem_cons.1 hx with e | hx
    · rw [← e, if_pos rfl, lastA_not x.1 a _ fun z hz e2 => self_less (by have := hy z hz; rw [e2, e] at this; exact this)]
    · rw [lastA_some, ih ha hx]
      rfl
theorem lasts_in (l : List FileL) (x : FileL) (hx : x ∈ lastsT l) (b : Bool) : inF x l b = true := by
  rw [inF_last, ← (lasts_is l).2, rise_last (lasts_is l).1 hx]
  exact decide_eq_true rfl
end Go.Proofs.YtdjmfkodjjjhfaaGreatDoor
