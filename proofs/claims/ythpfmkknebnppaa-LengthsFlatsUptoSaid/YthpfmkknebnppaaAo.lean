/- The seven laws of lengths (LengthsMakes, LengthsFlats, LengthsChecks, LengthsCosts, LengthsFull, LengthsEven, LengthsBest) hold of the code. Conditions: those of the statements themselves (LengthsMakes, LengthsFlats: what comes in is of bulk at most 1048576). -/
import Derived.Test.YthpfmkknebnppaaYo
import Derived.Test.YthpfmkknebnppaaAd
import Derived.Test.YthpfmkknebnppaaAe
import Derived.Test.YthpfmkknebnppaaAm
import Derived.Test.YthpfmkknebnppaaAn
namespace Go.Proofs.Ythpfmkknebnppaa
open Go.RowKit

/-- What is asked of the code's functions. -/
theorem done (N : Nat) : LenDone N where
  make := fun w A n c L most hz _ _ hn _ _ => by
    by_cases h1 : MayW L
    · by_cases h2 : most < 12
      · exact cmake_out w A n c L most hz hn (.inr (.inl h2))
      · by_cases h3 : 20 < most
        · exact cmake_out w A n c L most hz hn (.inr (.inr h3))
        · obtain ⟨m, rfl⟩ : ∃ m : Nat, most = m := ⟨most.toNat, by omega⟩
          exact cmake_any w A n c L m hz h1 (by omega) (by omega)
    · exact cmake_out w A n c L most hz hn (.inl h1)
  flat := fun w A n c L hz _ _ hn => by
    by_cases h1 : MayW L
    · exact cflat_any w A n c L hz h1
    · exact cflat_out w A n c L hz hn h1
  check := fun w A n c L hz _ hn => (ccheck_any w A n c L hz hn).mono fun e w' h => ⟨h.1, by rw [h.2]; exact Below.refl _ _⟩
  full := fun w A n c L hz _ hn => (cfull_any w A n c L hz hn).mono fun e w' h => ⟨h.1, by rw [h.2]; exact Below.refl _ _⟩
  cost := fun w A B n c m d W L hW _ hn hL _ hm => (ccost_any w A B n c m d W L hW hn hL hm).mono fun e w' h => ⟨h.1, by rw [h.2]; exact Below.refl _ _⟩

theorem lengthsMakes_upto : Rows.LengthsMakesUptoSaid := LengthsMakesU.over (done 1048576)
theorem lengthsFlats_upto : Rows.LengthsFlatsUptoSaid := LengthsFlatsU.over (done 1048576)
theorem lengthsChecks_holds : Rows.LengthsChecksSaid := LengthsChecks.over (done 10) (by omega)
theorem lengthsCosts_holds : Rows.LengthsCostsSaid := LengthsCosts.over (done 10) (by omega)
theorem lengthsFull_holds : Rows.LengthsFullSaid := LengthsFull.over (done maxLen)
theorem lengthsEven_holds : Rows.LengthsEvenSaid := LengthsEven.over (done maxLen)
theorem lengthsBest_holds : Rows.LengthsBestSaid := LengthsBest.over (done 258) (by omega)

end Go.Proofs.Ythpfmkknebnppaa
