/-
  The program's contracts on the text of settings, as the laws ask them.
-/
import Derived.Test.YtnnbhgnllbjmeaaGreatDoorI8T
import Derived.Test.YtnnbhgnllbjmeaaGreatDoorI8V
import Derived.Test.YtnnbhgnllbjmeaaGreatDoorLawH8
namespace Go.Proofs.YtnnbhgnllbjmeaaGreatDoor
open Go.RowKit

theorem implText8 (W : World) (hd : Dig8 W) : ImplText8 W := fun wz hB C u h _ => textG C u wz (hd.mono hB) h
end Go.Proofs.YtnnbhgnllbjmeaaGreatDoor
