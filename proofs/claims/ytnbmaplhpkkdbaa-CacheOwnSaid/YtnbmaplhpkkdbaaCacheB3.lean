/- The runs of the statement CacheOwn, of the numbers from 96 on. -/
import Derived.Test.YtnbmaplhpkkdbaaCacheA
set_option maxRecDepth 100000
namespace Go.Proofs.Ytnbmaplhpkkdbaa.cacheOwn
open Go Ev

theorem r96 : chk 8 96 = true := by kernel_rfl
theorem r104 : chk 8 104 = true := by kernel_rfl
theorem r112 : chk 8 112 = true := by kernel_rfl
theorem r120 : chk 8 120 = true := by kernel_rfl

end Go.Proofs.Ytnbmaplhpkkdbaa.cacheOwn
