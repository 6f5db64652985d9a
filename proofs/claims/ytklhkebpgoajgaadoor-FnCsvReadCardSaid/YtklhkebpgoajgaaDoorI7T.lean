/-
  The text of rows, the program's way.
-/
import Derived.Test.YtklhkebpgoajgaaDoorI7B
import Derived.Test.YtklhkebpgoajgaaDoorShB
import Derived.Deep.LoopGhost
namespace Go.Proofs.YtklhkebpgoajgaaDoor
open Go.RowKit

/-- A builder at block b that holds the bytes l. -/
def Bld (w : World) (b : Nat) (l : List UInt8) : Prop := Lib.IsBuilder 44 5 b b (Lib.byteCells l) w
theorem Bld.below {w w' : World} {b : Nat} {l : List UInt8} (h : Bld w b l) (hB : Below w.heap.size w w') : Bld w' b l := by
  have key : ∀ p, Lib.BuilderAt 44 5 b b p (Lib.byteCells l) w → Lib.BuilderAt 44 5 b b p (Lib.byteCells l) w' := by
    rintro p ⟨h1, v, hb, ho, hne⟩
    exact ⟨h1, v, (hB.block _ (blk_lt hb)).trans hb, ho.kept (grown_of_below hB none) (by cases hv : v.ownBlock <;> simp), hne⟩
  exact h.elim (fun x => .inl (key _ x)) (fun x => .inr (key _ x))
theorem Bld.lt {w : World} {b : Nat} {l : List UInt8} (h : Bld w b l) : b < w.heap.size := h.elim (fun x => x.lt) (fun x => x.lt)
theorem bld_new (w : World) : Bld (w.alloc (.cells #[.pointer none, .slice none 0 0] 44)) w.heap.size [] := Lib.fresh_isBuilder _ _ w
theorem bldByte {w : World} {b : Nat} {l : List UInt8} (h : Bld w b l) (hl : l.length + 1 ≤ 140737488355328) (c : UInt8) (z : Int) (hz : z = c.toNat) :
    Calls Tryd.prog 27 #[.pointer (some ⟨b, 0, none⟩), .int .u8 z] w fun e w' => e = .returned .nilIface ∧ Bld w' b (l ++ [c]) ∧ Below b w w' := by
  subst hz
  refine (Tryd.Builder_WriteByte b b _ _ w h (by rw [Lib.byteCells_length]; exact hl) (Nat.le_of_lt h.lt)).mono fun e w' ⟨he, hb, hB⟩ => ⟨he, .inr ?_, hB⟩
  rw [Lib.byteCells_append]
  exact hb
theorem bldStr {w : World} {b : Nat} {l f : List UInt8} (h : Bld w b l) (hl : l.length + f.length ≤ 140737488355328) :
    Calls Tryd.prog 28 #[.pointer (some ⟨b, 0, none⟩), .string ⟨f.toArray⟩] w fun e w' => (∃ k : Int, e = .returned (.tuple #[.int .i64 k, .nilIface])) ∧ Bld w' b (l ++ f) ∧ Below b w w' := by
  refine (Tryd.Builder_WriteString b b _ ⟨f.toArray⟩ w h (by rw [Lib.byteCells_length, mk_size]; exact hl) (Nat.le_of_lt h.lt)).mono fun e w' ⟨he, hb, hB⟩ => ⟨⟨_, he⟩, .inr ?_, hB⟩
  rw [Lib.byteCells_append]
  exact hb
theorem bldDone {w : World} {b : Nat} {l : List UInt8} (h : Bld w b l) :
    Calls Tryd.prog 29 #[.pointer (some ⟨b, 0, none⟩)] w fun e w' => e = .returned (.string ⟨l.toArray⟩) ∧ Below b w w' :=
  Tryd.Builder_String_any b b l w h (Nat.le_of_lt h.lt)

/-- The world while the rows are written: the builder is the first block behind w. -/
structure TxSt (w wr : World) (l : List UInt8) : Prop where
  below : Below w.heap.size w wr
  bld : Bld wr w.heap.size l
theorem TxSt.next {w wr w' : World} {l : List UInt8} (h : TxSt w wr l) (hB : Below wr.heap.size wr w') : TxSt w w' l :=
  ⟨h.below.trans (hB.mono h.below.size), h.bld.below hB⟩
theorem TxSt.wrote {w wr w' : World} {l l' : List UInt8} (h : TxSt w wr l) (hb : Bld w' w.heap.size l') (hB : Below w.heap.size wr w') : TxSt w w' l' :=
  ⟨h.below.trans hB, hb⟩
theorem TxSt.start (w : World) : TxSt w (w.alloc (.cells #[.pointer none, .slice none 0 0] 44)) [] :=
  ⟨(Below.refl _ _).alloc (Nat.le_refl _) _, bld_new w⟩

set_option maxRecDepth 100000 in
set_option maxHeartbeats 4000000 in
theorem textG (w : World) (a : Option Addr) (c : Nat) (L : List (List (List UInt8))) (hl : L.length ≤ 9223372036854775807) (ht : (csvT L).length ≤ 16777216) (hz : ∀ r ∈ L, ∀ p ∈ r, p.length ≤ 16777216)
    {m : Int} (hm : w.cell? ⟨0, 0, none⟩ = some (.int .i64 m))
    (hc : ∀ (j : Nat) row, L[j]? = some row → ∃ b off u, a = some ⟨b, off, none⟩ ∧ w.cell? ⟨b, off + j, none⟩ = some u ∧ StrRow w u row) :
    Calls Tryd.prog 10 #[.slice a L.length c] w fun e w' => e = .returned (.string ⟨(csvT L).toArray⟩) ∧ Below w.heap.size w w' := by
  have HC := Lib.hid hc
  have HT := Lib.hid ht
  have HZ := Lib.hid hz
  have HF := Lib.hid (fun (p : List UInt8) (hp : p.length ≤ 16777216) (W : World) (hW : Below w.heap.size w W) => csvFieldG ⟨p.toArray⟩ (by rw [mk_size]; exact hp) W (maxLen_keep hm hW) (csvF p) rfl)
  clear hc ht hz hm
  obtain ⟨n, hn⟩ : ∃ n : Nat, L.length = n := ⟨_, rfl⟩
  rw [hn] at hl ⊢
  have HE := Lib.hid hn
  clear hn
  go_enter Tryd.func10, Tryd.ntmps10
  go_wp2_with fail
  go_loopg [5, 6, 7, 10] n (fun g _ _ _ i wr => ∃ j : Nat, j ≤ n ∧ g = n - j ∧ i = .int .i64 j ∧ TxSt w wr (csvT (L.take j)))
  case atStart => exact ⟨0, Nat.zero_le _, rfl, rfl, TxSt.start w⟩
  case round =>
    obtain ⟨j, hj, rfl, rfl, hS⟩ := hrel
    have HS := Lib.hid hS
    clear hS
    by_cases hlt : j < n
    · have hj1 : (j : Int) < n := by omega
      have hj0 : (0 : Int) ≤ j := by omega
      obtain ⟨r, hr⟩ : ∃ r, L[j]? = some r := ⟨_, List.getElem?_eq_getElem (by rw [HE.out]; exact hlt)⟩
      obtain ⟨b, off, u, rfl, hcu0, hru⟩ := HC.out j r hr
      obtain ⟨A, cA, rfl, hrl, hrc⟩ := strRow_form hru
      have hcu := (HS.out.below.cell (p := ⟨b, off + j, none⟩) (World.block_lt_of_cell? w _ hcu0)).trans hcu0
      have HRC := Lib.hid hrc
      have HR := Lib.hid hr
      have HPZ : Hid (∀ (q : Nat) p, r[q]? = some p → p.length ≤ 16777216) := Lib.hid (fun q p hq => HZ.out r (List.mem_of_getElem? hr) p (List.mem_of_getElem? hq))
      obtain ⟨k, hk⟩ : ∃ k : Nat, r.length = k := ⟨_, rfl⟩
      rw [hk] at hrl hcu
      have HM := Lib.hid hk
      have HS0 := Lib.hid (show TxSt w wr (csvT (L.take j) ++ rowT (r.take 0)) by rw [show csvT (L.take j) ++ rowT (r.take 0) = csvT (L.take j) by simp [rowT]]; exact HS.out)
      clear hcu0 hru hrc hr hk HS
      go_wp2_with fail
      clear hcu
      go_loopg [6, 7, 16] k (fun g _ _ i wr => ∃ q : Nat, q ≤ k ∧ g = k - q ∧ i = .int .i64 q ∧ TxSt w wr (csvT (L.take j) ++ rowT (r.take q)))
      case atStart => exact ⟨0, Nat.zero_le _, rfl, rfl, HS0.out⟩
      case round =>
        clear HS0
        obtain ⟨q, hq, rfl, rfl, hS⟩ := hrel
        have HS := Lib.hid hS
        clear hS
        by_cases hqm : q < k
        · have hq1 : (q : Int) < k := by omega
          have hq9 : (0 : Int) ≤ q := by omega
          obtain ⟨p, hp⟩ : ∃ p, r[q]? = some p := ⟨_, List.getElem?_eq_getElem (by rw [HM.out]; exact hqm)⟩
          obtain ⟨b2, off2, rfl, hcp0⟩ := HRC.out q p hp
          have hcp := (HS.out.below.cell (p := ⟨b2, off2 + q, none⟩) (World.block_lt_of_cell? w _ hcp0)).trans hcp0
          have HP := Lib.hid hp
          have HPL := Lib.hid (HPZ.out q p hp)
          clear hp hcp0
          by_cases h0 : q = 0
          · have hq0 : ¬ (0 : Int) < q := by omega
            have HL : Hid (csvT (L.take j) ++ rowT (r.take (q + 1)) = csvT (L.take j) ++ rowT (r.take q) ++ csvF p) := Lib.hid (by rw [rowT_take_succ HP.out, if_pos h0, h0]; simp [rowT])
            have HB := Lib.hid (csvT_part HR.out (q + 1))
            rw [HL.out] at HB
            generalize csvT (L.take j) ++ rowT (r.take q) = l at HS HL HB
            have HB2 : Hid (l.length + (csvF p).length ≤ 140737488355328) := Lib.hid (by have h1 := HB.out; have h2 := HT.out; rw [List.length_append] at h1; omega)
            clear h0
            go_wp2_with fail
            refine (HF.out p HPL.out wr HS.out.below).mono ?_
            rintro e w1 ⟨rfl, hB1⟩
            have H1 := Lib.hid (HS.out.next hB1)
            clear hB1 hcp HS
            go_wp2_with fail
            refine (bldStr H1.out.bld HB2.out).mono ?_
            rintro e w2 ⟨⟨k2, rfl⟩, hb2, hB2⟩
            have H2 := Lib.hid (H1.out.wrote hb2 hB2)
            clear hb2 hB2 H1
            go_wp2_with fail
            go_roundg (k - (q + 1))
            case measure => omega
            case rel => exact ⟨q + 1, by omega, rfl, by go_num, by rw [HL.out]; exact H2.out⟩
          · have hq0 : (0 : Int) < q := by omega
            have HL : Hid (csvT (L.take j) ++ rowT (r.take (q + 1)) = csvT (L.take j) ++ rowT (r.take q) ++ [44] ++ csvF p) := Lib.hid (by rw [rowT_take_succ HP.out, if_neg h0]; simp)
            have HB := Lib.hid (csvT_part HR.out (q + 1))
            rw [HL.out] at HB
            generalize csvT (L.take j) ++ rowT (r.take q) = l at HS HL HB
            have HB2 : Hid ((l ++ [44]).length + (csvF p).length ≤ 140737488355328) := Lib.hid (by have h1 := HB.out; have h2 := HT.out; simp only [List.length_append, List.length_cons, List.length_nil] at h1 ⊢; omega)
            have HB1 : Hid (l.length + 1 ≤ 140737488355328) := Lib.hid (by have h1 := HB2.out; simp only [List.length_append, List.length_cons, List.length_nil] at h1; omega)
            clear h0
            go_wp2_with fail
            refine (bldByte HS.out.bld HB1.out 44 _ rfl).mono ?_
            rintro e w0 ⟨rfl, hb0, hB0⟩
            have H0 := Lib.hid (HS.out.wrote hb0 hB0)
            clear hb0 hB0 hcp HS
            go_wp2_with fail
            refine (HF.out p HPL.out w0 H0.out.below).mono ?_
            rintro e w1 ⟨rfl, hB1⟩
            have H1 := Lib.hid (H0.out.next hB1)
            clear hB1 H0
            go_wp2_with fail
            refine (bldStr H1.out.bld HB2.out).mono ?_
            rintro e w2 ⟨⟨k2, rfl⟩, hb2, hB2⟩
            have H2 := Lib.hid (H1.out.wrote hb2 hB2)
            clear hb2 hB2 H1
            go_wp2_with fail
            go_roundg (k - (q + 1))
            case measure => omega
            case rel => exact ⟨q + 1, by omega, rfl, by go_num, by rw [HL.out]; exact H2.out⟩
        · have hqe : q = k := by omega
          have hq1 : ¬ (q : Int) < k := by omega
          have HL : Hid (csvT (L.take (j + 1)) = csvT (L.take j) ++ rowT (r.take q) ++ [10]) := Lib.hid (by
            rw [csvT_take_succ HR.out, show r.take q = r from List.take_of_length_le (by rw [HM.out]; omega)])
          have HB := Lib.hid (csvT_part HR.out q)
          generalize csvT (L.take j) ++ rowT (r.take q) = l at HS HL HB
          have HB1 : Hid (l.length + 1 ≤ 140737488355328) := Lib.hid (by have h1 := HB.out; have h2 := HT.out; omega)
          clear hqe
          go_wp2_with fail
          refine (bldByte HS.out.bld HB1.out 10 _ rfl).mono ?_
          rintro e w0 ⟨rfl, hb0, hB0⟩
          have H0 := Lib.hid (HS.out.wrote hb0 hB0)
          clear hb0 hB0 HS
          go_wp2_with fail
          go_roundg (n - (j + 1))
          case measure => omega
          case rel => exact ⟨j + 1, by omega, rfl, by go_num, by rw [HL.out]; exact H0.out⟩
    · have hje : j = n := by omega
      have hj1 : ¬ (j : Int) < n := by omega
      have HL : Hid (L.take j = L) := Lib.hid (List.take_of_length_le (by rw [HE.out]; omega))
      rw [HL.out] at HS
      clear hje
      go_wp2_with fail
      refine (bldDone HS.out.bld).mono ?_
      rintro e w1 ⟨rfl, hB1⟩
      go_wp2_with fail
      go_ret
      exact ⟨rfl, HS.out.below.trans hB1⟩

theorem implText (W : World) (m : Int) (hm : W.cell? ⟨0, 0, none⟩ = some (.int .i64 m)) : ImplText W := by
  intro w v L hB h ht _ hz
  obtain ⟨a, c, rfl, hl, hf⟩ := ssRow_form h
  exact textG w a c L hl ht (fun r hr => (hz r hr).2) (maxLen_keep hm hB) hf
end Go.Proofs.YtklhkebpgoajgaaDoor
