/- The library functions that are called, by the contracts of the shelf. -/
import Derived.Shelf.Lay
import Derived.Shelf.LaySoft
import Derived.Test.YtbiimgfocgbdaaaDoorProg
namespace Go.Proofs
open Go.Shelf
shelf_tried
end Go.Proofs
