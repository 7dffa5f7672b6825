/- The runs of the statement CacheOwn, of the numbers from 128 on. -/
import Derived.Test.YtnbmaplhpkkdbaaCacheA
set_option maxRecDepth 100000
namespace Go.Proofs.Ytnbmaplhpkkdbaa.cacheOwn
open Go Ev

theorem r128 : chk 8 128 = true := by kernel_rfl
theorem r136 : chk 8 136 = true := by kernel_rfl
theorem r144 : chk 8 144 = true := by kernel_rfl
theorem r152 : chk 8 152 = true := by kernel_rfl

end Go.Proofs.Ytnbmaplhpkkdbaa.cacheOwn
