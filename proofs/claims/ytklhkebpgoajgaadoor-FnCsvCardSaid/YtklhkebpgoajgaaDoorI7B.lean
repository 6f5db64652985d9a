/-
  A field's text and what it stands for, the program's way.
-/
import Derived.Test.YtklhkebpgoajgaaDoorLawC7
import Derived.Test.YtklhkebpgoajgaaDoorI7A
namespace Go.Proofs.YtklhkebpgoajgaaDoor
open Go.RowKit

theorem maxLen_keep {W w : World} {m : Int} (hm : W.cell? ⟨0, 0, none⟩ = some (.int .i64 m)) (hB : Below W.heap.size W w) : w.cell? ⟨0, 0, none⟩ = some (.int .i64 m) := by
  have hl := World.block_lt_of_cell? _ _ hm
  have h := hB.block _ hl
  simp only [World.cell?] at hm ⊢
  rw [h]
  exact hm
theorem mk_size (l : List UInt8) : (⟨l.toArray⟩ : ByteArray).size = l.length := by simp [ByteArray.size]
theorem quoted (y : List UInt8) : (⟨#[34]⟩ : ByteArray) ++ ⟨y.toArray⟩ ++ ⟨#[34]⟩ = ⟨(34 :: (y ++ [34])).toArray⟩ := by
  apply ByteArray.ext
  apply Array.ext'
  simp
theorem trs_le (l p : List UInt8) : (Lib.trimSuffix l p).length ≤ l.length := by
  unfold Lib.trimSuffix
  split
  · rw [List.length_take]; omega
  · omega
theorem trp_le (l p : List UInt8) : (Lib.trimPrefix l p).length ≤ l.length := by
  unfold Lib.trimPrefix
  split
  · rw [List.length_drop]; omega
  · omega
theorem cutR (s : ByteArray) (hs : s.size ≤ 16777216) (t : List UInt8) (ht : Lib.trimSuffix s.data.toList [13] = t) (w : World) :
    Calls Tryd.prog 47 #[.string s, .string ⟨#[13]⟩] w fun e w' => e = .returned (.string ⟨t.toArray⟩) ∧ w' = w := by
  have h := Tryd.strings_TrimSuffix s ⟨#[13]⟩ w (by omega)
  rw [show (⟨#[13]⟩ : ByteArray).data.toList = [13] from rfl, ht] at h
  exact h
theorem cutQ (t u : List UInt8) (b : Bool) (hu : Lib.trimPrefix t [34] = u) (hb : Lib.hasPrefix t [34] = b) (w : World) :
    Calls Tryd.prog 48 #[.string ⟨t.toArray⟩, .string ⟨#[34]⟩] w fun e w' => e = .returned (.tuple #[.string ⟨u.toArray⟩, .bool b]) ∧ w' = w := by
  have h := Tryd.strings_CutPrefix ⟨t.toArray⟩ ⟨#[34]⟩ w
  rw [show (⟨#[34]⟩ : ByteArray).data.toList = [34] from rfl, show (⟨t.toArray⟩ : ByteArray).data.toList = t from rfl, hu, hb] at h
  exact h
theorem cutE (u v : List UInt8) (hl : u.length ≤ 16777216) (hv : Lib.trimSuffix u [34] = v) (w : World) :
    Calls Tryd.prog 47 #[.string ⟨u.toArray⟩, .string ⟨#[34]⟩] w fun e w' => e = .returned (.string ⟨v.toArray⟩) ∧ w' = w := by
  have h := Tryd.strings_TrimSuffix ⟨u.toArray⟩ ⟨#[34]⟩ w (by rw [mk_size]; omega)
  rw [show (⟨#[34]⟩ : ByteArray).data.toList = [34] from rfl, show (⟨u.toArray⟩ : ByteArray).data.toList = u from rfl, hv] at h
  exact h
theorem unDbl (v x : List UInt8) (hl : v.length ≤ 16777216) (hx : Lib.replaceAll v [34, 34] [34] = x) (w : World) {m : Int} (hm : w.cell? ⟨0, 0, none⟩ = some (.int .i64 m)) :
    Calls Tryd.prog 39 #[.string ⟨v.toArray⟩, .string ⟨#[34, 34]⟩, .string ⟨#[34]⟩] w fun e w' => e = .returned (.string ⟨x.toArray⟩) ∧ Below w.heap.size w w' := by
  have hc := Lib.countB_mul_le ⟨#[34, 34]⟩ (by decide) _ ⟨v.toArray⟩ (Nat.le_refl _)
  rw [mk_size v, show (⟨#[34, 34]⟩ : ByteArray).size = 2 from rfl] at hc
  have h := Tryd.strings_ReplaceAll ⟨v.toArray⟩ ⟨#[34, 34]⟩ ⟨#[34]⟩ m w (by rw [mk_size v]; omega) hm (by decide) (by rw [mk_size v, show (⟨#[34]⟩ : ByteArray).size = 1 from rfl]; omega)
  rw [show (⟨#[34]⟩ : ByteArray).data.toList = [34] from rfl, show (⟨#[34, 34]⟩ : ByteArray).data.toList = [34, 34] from rfl, show (⟨v.toArray⟩ : ByteArray).data.toList = v from rfl, hx] at h
  exact h
theorem doDbl (s : ByteArray) (hl : s.size ≤ 16777216) (x : List UInt8) (hx : Lib.replaceAll s.data.toList [34] [34, 34] = x) (w : World) {m : Int} (hm : w.cell? ⟨0, 0, none⟩ = some (.int .i64 m)) :
    Calls Tryd.prog 39 #[.string s, .string ⟨#[34]⟩, .string ⟨#[34, 34]⟩] w fun e w' => e = .returned (.string ⟨x.toArray⟩) ∧ Below w.heap.size w w' := by
  have hc := Lib.countB_mul_le ⟨#[34]⟩ (by decide) _ s (Nat.le_refl _)
  rw [show (⟨#[34]⟩ : ByteArray).size = 1 from rfl] at hc
  have h := Tryd.strings_ReplaceAll s ⟨#[34]⟩ ⟨#[34, 34]⟩ m w (by omega) hm (by decide) (by rw [show (⟨#[34, 34]⟩ : ByteArray).size = 2 from rfl]; omega)
  rw [show (⟨#[34]⟩ : ByteArray).data.toList = [34] from rfl, show (⟨#[34, 34]⟩ : ByteArray).data.toList = [34, 34] from rfl, hx] at h
  exact h

set_option maxRecDepth 100000 in
/-- WHAT A FIELD's TEXT STANDS FOR. -/
theorem fieldValue (s : ByteArray) (hs : s.size ≤ 16777216) (w : World) {m : Int} (hm : w.cell? ⟨0, 0, none⟩ = some (.int .i64 m)) (x : List UInt8) (hx : fv7 s.data.toList = x) :
    Calls Tryd.prog 31 #[.string s] w fun e w' => e = .returned (.string ⟨x.toArray⟩) ∧ Below w.heap.size w w' := by
  obtain ⟨t, ht⟩ : ∃ t, Lib.trimSuffix s.data.toList [13] = t := ⟨_, rfl⟩
  obtain ⟨u, hu⟩ : ∃ u, Lib.trimPrefix t [34] = u := ⟨_, rfl⟩
  obtain ⟨v, hv⟩ : ∃ v, Lib.trimSuffix u [34] = v := ⟨_, rfl⟩
  have l0 : s.data.toList.length = s.size := (Lib.size_eq s).symm
  have l1 : t.length ≤ s.data.toList.length := by rw [← ht]; exact trs_le _ _
  have l2 : u.length ≤ t.length := by rw [← hu]; exact trp_le _ _
  have l3 : v.length ≤ u.length := by rw [← hv]; exact trs_le _ _
  have H1 := Lib.hid (fun W => cutR s hs t ht W)
  have H3 := Lib.hid (fun W => cutE u v (by omega) hv W)
  cases hb : Lib.hasPrefix t [34]
  · have hxt : t = x := by rw [← hx, fv7, ht, hb, if_neg (by simp)]
    have H2 := Lib.hid (fun W => cutQ t u false hu hb W)
    clear hb hu hv ht hx l0 l1 l2 l3 H3
    subst hxt
    go_enter Tryd.func31, Tryd.ntmps31
    go_wp2_with fail
    refine (H1.out _).mono ?_
    rintro e w1 ⟨rfl, rfl⟩
    go_wp2_with fail
    refine (H2.out _).mono ?_
    rintro e w2 ⟨rfl, rfl⟩
    go_wp2_with fail
    go_ret
    exact ⟨rfl, Below.refl _ _⟩
  · have hxr : Lib.replaceAll v [34, 34] [34] = x := by rw [← hx, fv7, ht, hb, if_pos rfl, hu, hv]
    have H2 := Lib.hid (fun W => cutQ t u true hu hb W)
    have H4 := Lib.hid (unDbl v x (by omega) hxr w hm)
    clear hb hu hv ht hx l0 l1 l2 l3 hxr hm
    go_enter Tryd.func31, Tryd.ntmps31
    go_wp2_with fail
    refine (H1.out _).mono ?_
    rintro e w1 ⟨rfl, rfl⟩
    go_wp2_with fail
    refine (H2.out _).mono ?_
    rintro e w2 ⟨rfl, rfl⟩
    go_wp2_with fail
    refine (H3.out _).mono ?_
    rintro e w3 ⟨rfl, rfl⟩
    go_wp2_with fail
    refine H4.out.mono ?_
    rintro e w4 ⟨rfl, hB⟩
    go_wp2_with fail
    go_ret
    exact ⟨rfl, hB⟩

set_option maxRecDepth 100000 in
/-- A FIELD's TEXT. -/
theorem csvFieldG (s : ByteArray) (hs : s.size ≤ 16777216) (w : World) {m : Int} (hm : w.cell? ⟨0, 0, none⟩ = some (.int .i64 m)) (x : List UInt8) (hx : csvF s.data.toList = x) :
    Calls Tryd.prog 18 #[.string s] w fun e w' => e = .returned (.string ⟨x.toArray⟩) ∧ Below w.heap.size w w' := by
  cases hc : s.data.toList.any spB
  · have hxs : (⟨x.toArray⟩ : ByteArray) = s := by
      rw [← hx, csvF, hc, if_neg (by simp)]
    have H1 := Lib.hid (containsFour s hs false hc w)
    rw [hxs]
    clear hxs hx hc hm
    go_enter Tryd.func18, Tryd.ntmps18
    go_wp2_with fail
    refine H1.out.mono ?_
    rintro e w1 ⟨rfl, hB⟩
    go_wp2_with fail
    go_ret
    exact ⟨rfl, hB⟩
  · obtain ⟨y, hy⟩ : ∃ y, Lib.replaceAll s.data.toList [34] [34, 34] = y := ⟨_, rfl⟩
    have hxy : x = 34 :: (y ++ [34]) := by rw [← hx, csvF, hc, if_pos rfl, ← hy, rep_dbl _ _ (Nat.le_refl _)]
    have hyl : y.length ≤ 2 * s.size := by
      rw [← hy, rep_dbl _ _ (Nat.le_refl _)]
      have := dblL_len s.data.toList
      rw [Lib.size_eq]
      exact this
    have H1 := Lib.hid (containsFour s hs true hc w)
    have H2 := Lib.hid (fun W hW => doDbl s hs y hy W (maxLen_keep hm hW))
    clear hy hx hc hm
    subst hxy
    go_enter Tryd.func18, Tryd.ntmps18
    go_wp2_with fail
    refine H1.out.mono ?_
    rintro e w1 ⟨rfl, hB⟩
    go_wp2_with fail
    refine (H2.out w1 hB).mono ?_
    rintro e w2 ⟨rfl, hB2⟩
    go_wp2_with fail
    go_ret
    exact ⟨by rw [quoted]; rfl, bt hB hB2⟩
theorem implField (W : World) (m : Int) (hm : W.cell? ⟨0, 0, none⟩ = some (.int .i64 m)) : ImplField W := fun s w hB hs =>
  csvFieldG s (by omega) w (maxLen_keep hm hB) _ rfl
end Go.Proofs.YtklhkebpgoajgaaDoor
