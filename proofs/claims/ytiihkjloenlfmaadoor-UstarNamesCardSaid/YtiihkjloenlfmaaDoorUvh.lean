/- Ustar's code: what the laws ask of it. -/
import Derived.Test.YtiihkjloenlfmaaDoorUvg
import Derived.Test.YtiihkjloenlfmaaDoorUve
namespace Go.Proofs.YtiihkjloenlfmaaDoor
open Go.RowKit

theorem done : UstarDone where
  encode w hT h hb := cenc_any w hT h hb
  decode w s hs := by
    by_cases h : s.size = 512
    · exact cdec_yes w s h
    · have hd : decA s.data.toList = (zeroHead, 160) := by
        unfold decA
        rw [if_neg (fun hok => h hok.1)]
      rw [hd]
      exact cdec_no w s hs h
  zero w s _ := czero_any w s
end Go.Proofs.YtiihkjloenlfmaaDoor
