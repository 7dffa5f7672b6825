/- The runs of the statement CacheOwn, of the numbers from 224 on. -/
import Derived.Test.YtnbmaplhpkkdbaaCacheA
set_option maxRecDepth 100000
namespace Go.Proofs.Ytnbmaplhpkkdbaa.cacheOwn
open Go Ev

theorem r224 : chk 8 224 = true := by kernel_rfl
theorem r232 : chk 8 232 = true := by kernel_rfl
theorem r240 : chk 8 240 = true := by kernel_rfl
theorem r248 : chk 8 248 = true := by kernel_rfl

end Go.Proofs.Ytnbmaplhpkkdbaa.cacheOwn
