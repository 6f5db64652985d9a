/-
  What the program answers for tables: its contracts.
-/
import Derived.Test.YticeagjonfifbaaI9T
import Derived.Test.YticeagjonfifbaaI9E
import Derived.Test.YticeagjonfifbaaI9K
import Derived.Test.YticeagjonfifbaaLawP9
import Derived.Test.YticeagjonfifbaaLawS9
import Derived.Test.YticeagjonfifbaaLawO9
namespace Go.Proofs.Yticeagjonfifbaa
open Go.RowKit

theorem implName9 : ImplNameOk := fun s w hs => implName s w (by omega)
theorem implTabOk : ImplTabOk := fun T u1 u2 u3 w h h1 _ _ _ h5 h6 => implTabOk9 T u1 u2 u3 w h h1 h5 h6
theorem implSameTab : ImplSameTab := fun A B u1 u2 u3 v1 v2 v3 w ha hb _ _ _ _ _ _ _ _ _ _ _ _ => implSameT A B u1 u2 u3 v1 v2 v3 w ha hb
theorem implColumn9 : ImplColumn := fun T u1 u2 u3 f w h _ h2 _ _ _ _ _ _ => implColumn T u1 u2 u3 f w h h2
end Go.Proofs.Yticeagjonfifbaa
