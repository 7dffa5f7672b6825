/- The runs of the statement CacheOwn, of the numbers from 64 on. -/
import Derived.Test.YtnbmaplhpkkdbaaCacheA
set_option maxRecDepth 100000
namespace Go.Proofs.Ytnbmaplhpkkdbaa.cacheOwn
open Go Ev

theorem r64 : chk 8 64 = true := by kernel_rfl
theorem r72 : chk 8 72 = true := by kernel_rfl
theorem r80 : chk 8 80 = true := by kernel_rfl
theorem r88 : chk 8 88 = true := by kernel_rfl

end Go.Proofs.Ytnbmaplhpkkdbaa.cacheOwn
