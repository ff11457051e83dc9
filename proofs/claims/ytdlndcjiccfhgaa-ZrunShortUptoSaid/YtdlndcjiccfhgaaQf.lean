/- The five statements of layer 7 hold. Conditions: as the statements themselves say. -/
import Derived.Test.YtdlndcjiccfhgaaQe
import Derived.Test.YtdlndcjiccfhgaaZi
namespace Go.Proofs.Ytdlndcjiccfhgaa

theorem zrunRuns_holds : Rows.ZrunRunsSaid := ZrunRuns.over done
theorem zrunEncodes_holds : Rows.ZrunEncodesSaid := ZrunEncodes.over done
theorem zrunDecodes_holds : Rows.ZrunDecodesSaid := ZrunDecodes.over done
theorem zrunBack_holds : Rows.ZrunBackSaid := ZrunBack.over done
theorem zrunShort_holds : Rows.ZrunShortUptoSaid := ZrunShortU.over done

end Go.Proofs.Ytdlndcjiccfhgaa
