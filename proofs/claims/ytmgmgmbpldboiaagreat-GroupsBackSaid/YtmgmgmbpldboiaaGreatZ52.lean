/- Gsa: texts laid together, what is not used left out. -/
import Derived.Test.YtmgmgmbpldboiaaGreatZ24
import Derived.Test.YtmgmgmbpldboiaaGreatZ25
import Derived.Test.YtmgmgmbpldboiaaGreatZ33
import Derived.Test.YtmgmgmbpldboiaaGreatZ37
import Derived.Test.YtmgmgmbpldboiaaGreatZ41
import Derived.Test.YtmgmgmbpldboiaaGreatZ51
namespace Go.Proofs.YtmgmgmbpldboiaaGreat
open Go.RowKit

theorem MayG.nat {L : List Int} {m : Int} (h : MayG L m) : ∃ k : Nat, m = k := ⟨m.toNat, by have := h.1; omega⟩
/-- What is asked of the code's functions. -/
theorem done : GroupsDone where
  tables := fun w m _ _ => (ctables_any w m).mono fun e w' h => ⟨h.1, by rw [h.2]; exact Below.refl _ _⟩
  choose := fun w A n c L m hz hnc hn _ _ => by
    by_cases h : MayG L m
    · obtain ⟨k, rfl⟩ := h.nat
      exact cchoose_any w A n c L k hz hnc h
    · exact cchoose_out w A n c L m hz (by unfold maxLen; omega) h
  flat := fun w A n c L m hz _ hn _ _ => by
    by_cases h : MayG L m
    · obtain ⟨k, rfl⟩ := h.nat
      exact cgflat_any w A n c L k hz h
    · exact cgflat_out w A n c L m hz (by unfold maxLen; omega) h
  best := fun w A n c L m hz hnc hn _ _ => by
    by_cases h : MayG L m
    · obtain ⟨k, rfl⟩ := h.nat
      exact cbest_any w A n c L k hz hnc (by omega) h
    · exact cbest_out w A n c L m hz (by unfold maxLen; omega) h
  size := fun w v T P A n c L h _ hz hnc hn => csize_any w v T P h A n c L hz hnc (by omega)
  shows := fun w v T P h _ => cgshow_any w v T P h
  takes := fun w s at' n hs _ _ _ _ => cgtake_any w s at' n (by omega)
  puts := fun w v T P A n c L h _ hz hnc hn => cput_any w v T P h A n c L hz hnc (by omega)
  gets := fun w v T P s at' h _ hs hl hh => cget_any w v T P h s at' (by omega) hl hh
  full := fun w A n c L hz _ hn => (cfull_any w A n c L hz hn).mono fun e w' h => ⟨h.1, by rw [h.2]; exact Below.refl _ _⟩

theorem groupsChooses_holds : Rows.GroupsChoosesSaid := GroupsChooses.over done
theorem groupsFlats_holds : Rows.GroupsFlatsSaid := GroupsFlats.over done
theorem groupsTakes_holds : Rows.GroupsTakesSaid := GroupsTakes.over done
theorem groupsBack_holds : Rows.GroupsBackSaid := GroupsBack.over done
theorem groupsSizes_holds : Rows.GroupsSizesSaid := GroupsSizes.over done
theorem groupsPuts_upto : Rows.GroupsPutsUptoSaid := GroupsPutsU.over done

end Go.Proofs.YtmgmgmbpldboiaaGreat
