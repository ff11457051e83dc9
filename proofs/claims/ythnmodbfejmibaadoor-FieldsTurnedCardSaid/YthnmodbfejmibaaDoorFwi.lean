/- Fields: all that is asked of the code's functions. -/
import Derived.Test.YthnmodbfejmibaaDoorFde
import Derived.Test.YthnmodbfejmibaaDoorFwg
import Derived.Test.YthnmodbfejmibaaDoorFwh
namespace Go.Proofs.YthnmodbfejmibaaDoor
theorem done : FieldsDone where
  octal w hT n width h1 h2 h3 h4 := coctal_any w hT n width h1 h2 h3 h4
  number w s hs := cnumber_any w s hs
  text w s width hs h1 h2 := ctext_any w s width hs h1 h2
  cut w s hs := ccut_any w s hs
  digits w hT n h1 h2 := cdigits_any w hT n h1 h2
  decimal w s hs := cdecimal_any w s hs
  sum w s hs := csum15_any w s hs
end Go.Proofs.YthnmodbfejmibaaDoor
