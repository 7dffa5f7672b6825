/- The runs of the statement CacheOwn, of the numbers from 0 on. -/
import Derived.Test.YtnbmaplhpkkdbaaCacheA
set_option maxRecDepth 100000
namespace Go.Proofs.Ytnbmaplhpkkdbaa.cacheOwn
open Go Ev

theorem r0 : chk 8 0 = true := by kernel_rfl
theorem r8 : chk 8 8 = true := by kernel_rfl
theorem r16 : chk 8 16 = true := by kernel_rfl
theorem r24 : chk 8 24 = true := by kernel_rfl

end Go.Proofs.Ytnbmaplhpkkdbaa.cacheOwn
