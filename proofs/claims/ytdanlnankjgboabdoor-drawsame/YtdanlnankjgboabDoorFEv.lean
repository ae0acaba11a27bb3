/- An event that is told, as one that a screen does. -/
import Derived.Test.YtdanlnankjgboabDoorFMach
import Derived.Test.YtdanlnankjgboabDoorGMach
namespace Go.Proofs.YtdanlnankjgboabDoor

def toE (e : Ps.Ev) : Evt := ⟨e.kind, e.b, e.ps, e.pl⟩

end Go.Proofs.YtdanlnankjgboabDoor
