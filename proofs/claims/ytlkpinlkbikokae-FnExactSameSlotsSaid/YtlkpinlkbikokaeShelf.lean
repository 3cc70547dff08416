/- nothing of the shelf is reached here -/
import Derived.Test.YtlkpinlkbikokaeProg
namespace Go.Proofs.YtlkpinlkbikokaeShelf
end Go.Proofs.YtlkpinlkbikokaeShelf
