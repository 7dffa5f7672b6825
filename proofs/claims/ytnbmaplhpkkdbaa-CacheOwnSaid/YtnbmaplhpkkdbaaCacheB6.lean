/- The runs of the statement CacheOwn, of the numbers from 192 on. -/
import Derived.Test.YtnbmaplhpkkdbaaCacheA
set_option maxRecDepth 100000
namespace Go.Proofs.Ytnbmaplhpkkdbaa.cacheOwn
open Go Ev

theorem r192 : chk 8 192 = true := by kernel_rfl
theorem r200 : chk 8 200 = true := by kernel_rfl
theorem r208 : chk 8 208 = true := by kernel_rfl
theorem r216 : chk 8 216 = true := by kernel_rfl

end Go.Proofs.Ytnbmaplhpkkdbaa.cacheOwn
