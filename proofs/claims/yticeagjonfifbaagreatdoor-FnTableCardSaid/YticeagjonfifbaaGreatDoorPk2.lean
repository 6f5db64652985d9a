/-
  Small facts on blocks and strings that many texts share.
  What the reference says of a name.
  What spec.Parts and impl.Parts answer: a new row that holds the parts.
-/
import Derived.Test.YticeagjonfifbaaGreatDoorPk9
import Derived.Test.YticeagjonfifbaaGreatDoorPk1
import Derived.WalkKit
import Derived.ProofKit
import Derived.Outline
namespace Go.Proofs.YticeagjonfifbaaGreatDoor
open Go.RowKit

theorem infoStr : (Tryz.prog.info? 9).map (fun i => (i.zero, i.size, i.bytes)) = some (some (.string ByteArray.empty), 1, 16) := by kernel_rfl
theorem cellsStr : Tryz.prog.cellsOf 9 = 1 := by kernel_rfl
theorem strCells_len (a : List (List UInt8)) : (strCells a).length = a.length := List.length_map _
theorem news_one {w : World} {T : TypeId} {x : Value} : ∀ (j : Nat) (u : Value), [x][j]? = some u → (w.alloc (.cells #[x] T)).cell? ((⟨w.heap.size, 0, none⟩ : Addr).add j) = some u := by
  intro j u hu
  match j, hu with
  | 0, hu =>
    simp at hu
    subst hu
    have hb : (w.alloc (.cells #[x] T)).heap[w.heap.size]? = some (.cells #[x] T (0, 0)) := by
      show (w.heap.push _)[w.heap.size]? = _
      simp
    rw [show (⟨w.heap.size, 0, none⟩ : Addr).add 0 = ⟨w.heap.size, 0, none⟩ from by simp [Addr.add], cell_blk hb]
    rfl
theorem blk_lt {w : World} {b : Nat} {o : Obj} (h : w.heap[b]? = some o) : b < w.heap.size := (Array.getElem?_eq_some_iff.1 h).1
theorem alloc_blk (w : World) (cs : Array Value) (T : TypeId) : (w.alloc (.cells cs T)).heap[w.heap.size]? = some (.cells cs T (0, 0)) := by
  show (w.heap.push _)[w.heap.size]? = _
  simp
theorem alloc_lt (w : World) (o : Obj) : w.heap.size < (w.alloc o).heap.size := by simp
theorem blk_next {w w' : World} {b : Nat} {o : Obj} (h : w.heap[b]? = some o) (hB : Below w.heap.size w w') : w'.heap[b]? = some o := (hB.block b (blk_lt h)).trans h
theorem below_drewN2 {B : Nat} {a w : World} (h : Below B a w) (n : Nat) : Below B a (w.drewN n) := ⟨h.os, h.tape, h.output, h.size, h.block⟩
theorem owns_apart {w : World} {b1 b2 s1 s2 n1 n2 : Nat} {T1 T2 : TypeId} {v1 v2 : Value} {x1 x2 : List Value} (h1 : w.ownsRow b1 T1 s1 v1 n1 x1) (h2 : w.ownsRow b2 T2 s2 v2 n2 x2) (hT : T1 ≠ T2) : ∀ g, v1.ownBlock = some g → v2.ownBlock ≠ some g := by
  intro g hg hg2
  rcases h1.2 with ⟨rfl, _⟩ | ⟨g1, c1, cur1, rfl, _, hc1, _⟩
  · cases hg
  · rcases h2.2 with ⟨rfl, _⟩ | ⟨g2, c2, cur2, rfl, _, hc2, _⟩
    · cases hg2
    · simp only [Value.ownBlock, Option.some.injEq] at hg hg2
      subst hg
      subst hg2
      rw [hc1] at hc2
      injection hc2 with hc2
      injection hc2 with _ hc2
      exact hT hc2
theorem owns_keep {w w' : World} {b1 b2 n1 n2 : Nat} {T1 T2 : TypeId} {v1 v2 : Value} {x1 x2 : List Value} (h1 : w.ownsRow b1 T1 1 v1 n1 x1) (h2 : w.ownsRow b2 T2 1 v2 n2 x2) (hT : T1 ≠ T2) (hg : w.grownBy w' v2.ownBlock) : w'.ownsRow b1 T1 1 v1 n1 x1 := by
  refine h1.kept hg ?_
  cases e : v1.ownBlock with
  | none => exact Or.inl rfl
  | some g => exact Or.inr (fun k => owns_apart h1 h2 hT g e k.symm)
set_option maxRecDepth 100000 in
theorem eqFa (c a b : Int) (w : World) :
    Calls Tryz.prog 20 #[.agg #[.int .i64 c, .int .i64 a, .int .i64 b], .agg #[.int .i64 c, .int .i64 a, .int .i64 b]] w fun e w' => e = .returned (.bool true) ∧ Below w.heap.size w w' := by
  go_enter Tryz.func20, Tryz.ntmps20
  go_wp2_with fail
  go_ret
  exact ⟨rfl, ((Below.refl _ _).alloc (Nat.le_refl _) _).alloc (by simp) _⟩
end Go.Proofs.YticeagjonfifbaaGreatDoor
namespace Go.Proofs.YticeagjonfifbaaGreatDoor
open Go.RowKit

theorem ret_bool9 {a b : Bool} (h : a = b) : Ending.returned (.bool a) = .returned (.bool b) := by rw [h]
/-- Whether a byte may stand in a name. -/
def lowB (c : UInt8) : Bool := inZ (c.toNat : Int) 97 122 || inZ (c.toNat : Int) 48 57
/-- Whether a text is a name. -/
def nameB (l : List UInt8) : Bool := inZ (l.length : Int) 1 12 && decide (97 ≤ (l.getD 0 0).toNat) && l.all lowB
theorem all_take_succ {l : List UInt8} {k : Nat} {p : UInt8 → Bool} (hk : k < l.length) : (l.take (k + 1)).all p = ((l.take k).all p && p l[k]) := by
  rw [List.take_add_one, List.getElem?_eq_getElem hk, List.all_append]
  simp
theorem all_not {l : List UInt8} {k : Nat} {p : UInt8 → Bool} (hk : k < l.length) (h : p l[k] = false) : l.all p = false := by
  rw [List.all_eq_false]
  exact ⟨l[k], List.getElem_mem hk, by rw [h]; simp⟩

set_option maxRecDepth 100000 in
theorem specIn9 (x lo hi : Int) (w : World) :
    Calls Tryz.prog 51 #[.int .i64 x, .int .i64 lo, .int .i64 hi] w fun e w' => e = .returned (.bool (inZ x lo hi)) ∧ w = w' := by
  by_cases h1 : lo ≤ x
  · by_cases h2 : x ≤ hi
    · have e : inZ x lo hi = true := inZ_iff.2 ⟨h1, h2⟩
      rw [e]
      go_enter Tryz.func51, Tryz.ntmps51
      go_wp2_with fail
      go_ret
      exact ⟨rfl, rfl⟩
    · have e : inZ x lo hi = false := by rw [inZ, decide_eq_false_iff_not]; exact fun h => h2 h.2
      rw [e]
      go_enter Tryz.func51, Tryz.ntmps51
      go_wp2_with fail
      go_ret
      exact ⟨rfl, rfl⟩
  · have e : inZ x lo hi = false := by rw [inZ, decide_eq_false_iff_not]; exact fun h => h1 h.1
    rw [e]
    go_enter Tryz.func51, Tryz.ntmps51
    go_wp2_with fail
    go_ret
    exact ⟨rfl, rfl⟩

set_option maxRecDepth 100000 in
set_option maxHeartbeats 1000000 in
theorem specName_long (s : ByteArray) (w : World) (_hsz : s.size ≤ 9223372036854775807) (h : inZ (s.size : Int) 1 12 = false) :
    Calls Tryz.prog 53 #[.string s] w fun e w' => e = .returned (.bool false) ∧ ∃ k, w' = w.drewN k := by
  go_enter Tryz.func53, Tryz.ntmps53
  go_wp2_with fail
  refine (specIn9 _ _ _ _).mono ?_
  rintro e w1 ⟨rfl, rfl⟩
  rw [h]
  go_wp2_with fail
  go_ret
  exact ⟨rfl, 0, rfl⟩

set_option maxRecDepth 100000 in
set_option maxHeartbeats 1000000 in
theorem specName_head (s : ByteArray) (w : World) (hsz : s.size ≤ 12) (h0 : 0 < s.size) (h : s[0].toNat < 97) :
    Calls Tryz.prog 53 #[.string s] w fun e w' => e = .returned (.bool false) ∧ ∃ k, w' = w.drewN k := by
  have hin : inZ (s.size : Int) 1 12 = true := inZ_iff.2 ⟨by omega, by omega⟩
  have hk0 : (0 : Int) < s.size := by omega
  have hc : (s[0].toNat : Int) < 97 := by omega
  go_enter Tryz.func53, Tryz.ntmps53
  go_wp2_with fail
  refine (specIn9 _ _ _ _).mono ?_
  rintro e w1 ⟨rfl, rfl⟩
  rw [hin]
  go_wp2_with fail
  go_ret
  exact ⟨rfl, 0, rfl⟩
set_option maxRecDepth 100000 in
set_option maxHeartbeats 1000000 in
theorem specName_walk (s : ByteArray) (w : World) (hsz : s.size ≤ 12) (h0 : 0 < s.size) (h : 97 ≤ s[0].toNat) (r : Bool) (hr : Hid (s.data.toList.all lowB = r)) :
    Calls Tryz.prog 53 #[.string s] w fun e w' => e = .returned (.bool r) ∧ ∃ k, w' = w.drewN k := by
  have hln : s.data.toList.length = s.size := (Lib.size_eq s).symm
  have hin : inZ (s.size : Int) 1 12 = true := inZ_iff.2 ⟨by omega, by omega⟩
  have hk0 : (0 : Int) < s.size := by omega
  have hc : ¬ (s[0].toNat : Int) < 97 := by omega
  go_enter Tryz.func53, Tryz.ntmps53
  go_wp2_with fail
  refine (specIn9 _ _ _ _).mono ?_
  rintro e w1 ⟨rfl, rfl⟩
  rw [hin]
  go_wp2_with fail
  go_loop [3] (fun i => ∃ (k : Nat), k ≤ s.size ∧ i = .int .i64 k ∧ (s.data.toList.take k).all lowB = true) (fun i => s.size - (intOf i).toNat)
  case atStart => exact ⟨0, Nat.zero_le _, rfl, by simp⟩
  case round =>
    obtain ⟨k, hk, rfl, hI⟩ := hrel
    have HI := Lib.hid hI
    clear hI hc hin
    by_cases hlt : k < s.size
    · have hk1 : (k : Int) < s.size := by omega
      have hkk : (0 : Int) ≤ k := by omega
      have hkl : k < s.data.toList.length := by omega
      have hat : s.data.toList[k] = s[k] := by simp; rfl
      have hwk : wrap64 (s[k].toNat : Int) = s[k].toNat := by
        have := s[k].toNat_lt
        unfold wrap64
        omega
      have HT := Lib.hid (all_take_succ (p := lowB) hkl)
      have HN := Lib.hid (all_not (p := lowB) hkl)
      rw [hat] at HT HN
      clear hat
      by_cases h1 : inZ (s[k].toNat : Int) 97 122 = true
      · have HL : Hid (lowB s[k] = true) := Lib.hid (by rw [lowB, h1]; rfl)
        go_wp2_with fail
        refine (specIn9 _ _ _ _).mono ?_
        rintro e w1 ⟨rfl, rfl⟩
        rw [h1]
        go_wp2_with fail
        go_round
        case rel => exact ⟨k + 1, by omega, by go_num, by rw [HT.out, HI.out, HL.out]; rfl⟩
        case measure => simp [intOf]; omega
      · have h1f : inZ (s[k].toNat : Int) 97 122 = false := by simpa using h1
        go_wp2_with fail
        refine (specIn9 _ _ _ _).mono ?_
        rintro e w1 ⟨rfl, rfl⟩
        rw [h1f]
        by_cases h2 : inZ (s[k].toNat : Int) 48 57 = true
        · have HL : Hid (lowB s[k] = true) := Lib.hid (by rw [lowB, h2]; simp)
          go_wp2_with fail
          refine (specIn9 _ _ _ _).mono ?_
          rintro e w1 ⟨rfl, rfl⟩
          rw [h2]
          go_wp2_with fail
          go_round
          case rel => exact ⟨k + 1, by omega, by go_num, by rw [HT.out, HI.out, HL.out]; rfl⟩
          case measure => simp [intOf]; omega
        · have h2f : inZ (s[k].toNat : Int) 48 57 = false := by simpa using h2
          have HL : Hid (lowB s[k] = false) := Lib.hid (by rw [lowB, h1f, h2f]; rfl)
          go_wp2_with fail
          refine (specIn9 _ _ _ _).mono ?_
          rintro e w1 ⟨rfl, rfl⟩
          rw [h2f]
          go_wp2_with fail
          go_ret
          exact ⟨ret_bool9 ((HN.out HL.out).symm.trans hr.out), 0, rfl⟩
    · obtain rfl : k = s.size := by omega
      have hk1 : ¬ (s.size : Int) < s.size := by omega
      go_wp2_with fail
      go_ret
      have h2 := HI.out
      have e : s.data.toList.take s.size = s.data.toList := List.take_of_length_le (by omega)
      rw [e] at h2
      exact ⟨ret_bool9 (h2.symm.trans hr.out), 0, rfl⟩

/-- WHETHER A TEXT IS A NAME. -/
theorem specName (s : ByteArray) (w : World) (hsz : s.size ≤ 9223372036854775807) :
    Calls Tryz.prog 53 #[.string s] w fun e w' => e = .returned (.bool (nameB s.data.toList)) ∧ ∃ k, w' = w.drewN k := by
  have hln : s.data.toList.length = s.size := (Lib.size_eq s).symm
  by_cases h : inZ (s.size : Int) 1 12 = true
  · have hr := inZ_iff.1 h
    have h0 : 0 < s.size := by omega
    have hg : s.data.toList.getD 0 0 = s[0] := by
      rw [List.getD_eq_getElem?_getD, List.getElem?_eq_getElem (by omega)]
      simp
      rfl
    by_cases hc : 97 ≤ s[0].toNat
    · have e : nameB s.data.toList = s.data.toList.all lowB := by rw [nameB, hln, h, hg]; simp [hc]
      rw [e]
      exact specName_walk s w (by omega) h0 hc _ rfl
    · have e : nameB s.data.toList = false := by rw [nameB, hln, h, hg]; simp [hc]
      rw [e]
      exact specName_head s w (by omega) h0 (by omega)
  · have hf : inZ (s.size : Int) 1 12 = false := by simpa using h
    have e : nameB s.data.toList = false := by rw [nameB, hln, hf]; rfl
    rw [e]
    exact specName_long s w hsz hf
end Go.Proofs.YticeagjonfifbaaGreatDoor
namespace Go.Proofs.YticeagjonfifbaaGreatDoor
open Go.RowKit

theorem strCells_append (a b : List (List UInt8)) : strCells (a ++ b) = strCells a ++ strCells b := List.map_append
/-- The part that the walk cuts out. -/
theorem cut_str (s : ByteArray) (fr k : Nat) : Value.string (s.extract fr k) = .string ⟨((s.data.toList.drop fr).take (k - fr)).toArray⟩ := by rw [extract_mk]

set_option maxRecDepth 100000 in
set_option maxHeartbeats 2000000 in
theorem specParts (s : ByteArray) (c : UInt8) (w : World) (hsz : s.size ≤ 1048576) :
    Calls Tryz.prog 95 #[.string s, .int .u8 (c.toNat : Int)] w fun e w' => ∃ v, e = .returned v ∧ w'.ownsRow w.heap.size 9 1 v (partsL c s.data.toList).length (strCells (partsL c s.data.toList)) ∧ Below w.heap.size w w' := by
  obtain ⟨i0, hi, hz0, hz1, hz2⟩ := info_parts infoStr
  have hln : s.data.toList.length = s.size := (Lib.size_eq s).symm
  go_enter Tryz.func95, Tryz.ntmps95
  go_wp2_with fail
  go_loopw [5, 6, 7] (fun v f i wr => ∃ (k fr : Nat) (ps : List (List UInt8)), i = .int .i64 k ∧ f = .int .i64 fr ∧ PInv c s.data.toList fr k ps ∧ wr.ownsRow w.heap.size 9 1 v ps.length (strCells ps) ∧ Below w.heap.size w wr) (fun _ _ i _ => s.size + 1 - (intOf i).toNat)
  case atStart =>
    exact ⟨0, 0, [], rfl, rfl, pinv_start _ _, World.ownsRow_made w #[] 0 (Nat.le_refl _) (by unfold maxLen; omega) (by simp), (Below.refl _ _).alloc (Nat.le_refl _) _⟩
  case round =>
    obtain ⟨k, fr, ps, rfl, rfl, hI, hown, hB⟩ := hrel
    have hle := pinv_le hI
    have HI := Lib.hid hI
    clear hI
    rw [hln] at hle
    by_cases hk : k ≤ s.size
    · by_cases hlt : k < s.size
      · have hq0 : ((k : Int) == s.size) = false := by rw [beq_eq_false_iff_ne]; omega
        have hk1 : (k : Int) ≤ s.size := by omega
        have hkl : k < s.data.toList.length := by omega
        have hat : s.data.toList[k] = s[k] := by simp; rfl
        by_cases hc : s[k] = c
        · have hq : ((s[k].toNat : Int) == (c.toNat : Int)) = true := by rw [hc]; simp
          have HP := Lib.hid (pinv_cut HI.out hkl (hat.trans hc))
          clear hc hat
          go_wp2_with (at_builtin; refine wpList_append_own _ rfl _ _ 24 rfl w.heap.size 9 i0 (.string ByteArray.empty) 1 16 Tryz.underlying24 hi hz0 hz1 hz2 rfl (by decide) _ _ _ rfl (hown.alloc _) ⟨wr.heap.size, 0, none⟩ 1 1 [.string (s.extract fr k)] rfl rfl ?c1 ?c2 ?c3 ?c4 ?c5 ?_)
          case c1 => exact news_one
          case c2 => intro u hu; simp at hu; subst hu; rfl
          case c3 => unfold maxLen; omega
          case c4 => omega
          case c5 => have := hB.size; simp; omega
          intro v' w1 hown1 hg1 _
          have hown2 : w1.ownsRow w.heap.size 9 1 v' (ps ++ [(s.data.toList.drop fr).take (k - fr)]).length (strCells (ps ++ [(s.data.toList.drop fr).take (k - fr)])) := by
            rw [strCells_append, List.length_append]
            have e : strCells [(s.data.toList.drop fr).take (k - fr)] = [.string (s.extract fr k)] := by rw [cut_str]; rfl
            rw [e]
            exact hown1
          have hB1 := (hB.alloc hB.size (.cells #[.string (s.extract fr k)] 9)).grown hg1 (by have := hB.size; simp; omega) (fun j hj => (hown.lt j hj).1)
          clear hown1 hg1
          go_wp2_with fail
          go_roundw
          case rel => exact ⟨k + 1, k + 1, _, by go_num, by go_num, HP.out, hown2, hB1⟩
          case measure => first | (simp [intOf]; done) | (simp [intOf]; omega)
        · have hq : ((s[k].toNat : Int) == (c.toNat : Int)) = false := by
            rw [beq_eq_false_iff_ne]
            intro h
            exact hc (UInt8.toNat_inj.1 (by omega))
          have HP := Lib.hid (pinv_more HI.out hkl (fun h => hc (hat.symm.trans h)))
          clear hc hat
          go_wp2_with fail
          go_roundw
          case rel => exact ⟨k + 1, fr, ps, by go_num, rfl, HP.out, hown, hB⟩
          case measure => first | (simp [intOf]; done) | (simp [intOf]; omega)
      · obtain rfl : k = s.size := by omega
        have HP := Lib.hid (pinv_end HI.out hln.symm)
        go_wp2_with (at_builtin; refine wpList_append_own _ rfl _ _ 24 rfl w.heap.size 9 i0 (.string ByteArray.empty) 1 16 Tryz.underlying24 hi hz0 hz1 hz2 rfl (by decide) _ _ _ rfl (hown.alloc _) ⟨wr.heap.size, 0, none⟩ 1 1 [.string (s.extract fr s.size)] rfl rfl ?c1 ?c2 ?c3 ?c4 ?c5 ?_)
        case c1 => exact news_one
        case c2 => intro u hu; simp at hu; subst hu; rfl
        case c3 => unfold maxLen; omega
        case c4 => omega
        case c5 => have := hB.size; simp; omega
        intro v' w1 hown1 hg1 _
        have hown2 : w1.ownsRow w.heap.size 9 1 v' (ps ++ [(s.data.toList.drop fr).take (s.size - fr)]).length (strCells (ps ++ [(s.data.toList.drop fr).take (s.size - fr)])) := by
          rw [strCells_append, List.length_append]
          have e : strCells [(s.data.toList.drop fr).take (s.size - fr)] = [.string (s.extract fr s.size)] := by rw [cut_str]; rfl
          rw [e]
          exact hown1
        have hB1 := (hB.alloc hB.size (.cells #[.string (s.extract fr s.size)] 9)).grown hg1 (by have := hB.size; simp; omega) (fun j hj => (hown.lt j hj).1)
        clear hown1 hg1
        go_wp2_with fail
        go_roundw
        case rel => exact ⟨s.size + 1, s.size + 1, _, by go_num, by go_num, HP.out, hown2, hB1⟩
        case measure => first | (simp [intOf]; done) | (simp [intOf]; omega)
    · have hk1 : ¬ (k : Int) ≤ s.size := by omega
      have HP := Lib.hid (pinv_done HI.out (by omega))
      go_wp2_with fail
      go_ret
      exact ⟨_, rfl, by rw [← HP.out]; exact hown, hB⟩
end Go.Proofs.YticeagjonfifbaaGreatDoor
