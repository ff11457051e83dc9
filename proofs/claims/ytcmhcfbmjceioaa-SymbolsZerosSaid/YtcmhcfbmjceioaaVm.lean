/- All that is asked of symbols' functions. Conditions: texts of at most 20000 bytes. -/
import Derived.Test.YtcmhcfbmjceioaaVj
import Derived.Test.YtcmhcfbmjceioaaVk
import Derived.Test.YtcmhcfbmjceioaaVl
namespace Go.Proofs.Ytcmhcfbmjceioaa
open Go.RowKit

theorem done : SymDone where
  of := fun w s hs => cof_any w s (by omega)
  front := fun w s a hs ha => cfront_any w s a (by omega) (by omega)
  back := fun w A n c L a hL hnc hn ha => cback_any w A n c L a hL hnc (by omega) (by omega)
  shows := fun w a ha hm => cshow_any w a (by omega) hm
  refuses := fun w a ha hm => cshow_bad w a (by omega) hm
  take := fun w s p hs _ _ => ctake_all w s p (by omega)

end Go.Proofs.Ytcmhcfbmjceioaa
