/- Gsp: texts laid together, what is not used left out. -/
import Derived.Test.YtmgmgmbpldboiaaZ16
import Derived.Test.YtmgmgmbpldboiaaZ23
import Derived.Test.YtmgmgmbpldboiaaZ30
import Derived.Test.YtmgmgmbpldboiaaZ36
namespace Go.Proofs.Ytmgmgmbpldboiaa
open Go.RowKit

theorem MayG.nat {L : List Int} {m : Int} (h : MayG L m) : ∃ k : Nat, m = k := ⟨m.toNat, by have := h.1; omega⟩
/-- What is asked of the code's functions. -/
theorem done : GroupsDone where
  tables := fun w m _ _ => (ctables_any w m).mono fun e w' h => ⟨h.1, by rw [h.2]; exact Below.refl _ _⟩
  flat := fun w A n c L m hz _ hn _ _ => by
    by_cases h : MayG L m
    · obtain ⟨k, rfl⟩ := h.nat
      exact cgflat_any w A n c L k hz h
    · exact cgflat_out w A n c L m hz (by unfold maxLen; omega) h
  shows := fun w v T P h _ => cgshow_any w v T P h
  gets := fun w v T P s at' h _ hs hl hh => cget_any w v T P h s at' (by omega) hl hh

theorem groupsTables_holds : Rows.GroupsTablesSaid := GroupsTables.over done
theorem groupsShows_upto : Rows.GroupsShowsUptoSaid := GroupsShowsU.over done
theorem groupsGets_upto : Rows.GroupsGetsUptoSaid := GroupsGetsU.over done

end Go.Proofs.Ytmgmgmbpldboiaa
