/- MemLow for a seat whose cut lacks Again and Equal (LeafOrder's): nothing but Mem. -/
import Derived.Test.YtllopocekegljaaMem

