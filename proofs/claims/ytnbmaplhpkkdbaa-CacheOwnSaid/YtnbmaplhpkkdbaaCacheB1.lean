/- The runs of the statement CacheOwn, of the numbers from 32 on. -/
import Derived.Test.YtnbmaplhpkkdbaaCacheA
set_option maxRecDepth 100000
namespace Go.Proofs.Ytnbmaplhpkkdbaa.cacheOwn
open Go Ev

theorem r32 : chk 8 32 = true := by kernel_rfl
theorem r40 : chk 8 40 = true := by kernel_rfl
theorem r48 : chk 8 48 = true := by kernel_rfl
theorem r56 : chk 8 56 = true := by kernel_rfl

end Go.Proofs.Ytnbmaplhpkkdbaa.cacheOwn
