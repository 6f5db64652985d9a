/-
  The reading of settings, the program's way: what a line says, and what the walk keeps.
-/
import Derived.Test.YtnnbhgnllbjmeaaGreatDoorCfgV
import Derived.Test.YtnnbhgnllbjmeaaGreatDoorPk1
import Derived.Test.YtnnbhgnllbjmeaaGreatDoorPk4
import Derived.Test.YtnnbhgnllbjmeaaGreatDoorI8O
import Derived.Test.YtnnbhgnllbjmeaaGreatDoorPk2
import Derived.Test.YtnnbhgnllbjmeaaGreatDoorShFix
namespace Go.Proofs.YtnnbhgnllbjmeaaGreatDoor
open Go.RowKit

/-- What the library needs of a world. -/
structure Lib8 (w : World) : Prop where
  tab : Lib.TabIs Tryz.prog w "internal/strconv.uint64pow10" .u64 Lib.pow10Tab
  hg : 1 < w.heap.size
  errS : ∃ tp p, w.var? Tryz.prog "strconv.ErrSyntax" = some #[.iface tp p]
  errR : ∃ tp p, w.var? Tryz.prog "strconv.ErrRange" = some #[.iface tp p]
  mx : ∃ m, w.cell? ⟨0, 0, none⟩ = some (.int .i64 m)
theorem Lib8.mono {w w' : World} (h : Lib8 w) (hB : Below w.heap.size w w') : Lib8 w' := by
  obtain ⟨ht, hg, ⟨tp, p, hs⟩, ⟨tq, q, hr⟩, ⟨m, hm⟩⟩ := h
  exact ⟨tabIs_below ht hB gPow hg, Nat.lt_of_lt_of_le hg hB.size, ⟨tp, p, var?_below hB gES (var_lt gES hs) hs⟩, ⟨tq, q, var?_below hB gER (var_lt gER hr) hr⟩, ⟨m, cell_keep6 hm hB⟩⟩
/-- What reading a number gives: the number, and whether there is one. -/
noncomputable def numZ (l : List UInt8) : Int := (numV l).getD 0
noncomputable def numB (l : List UInt8) : Bool := (numV l).isSome
theorem numE_zb (l : List UInt8) : numE l = .returned (.tuple #[.int .i64 (numZ l), .bool (numB l)]) := by
  unfold numE numZ numB
  cases numV l <;> rfl
theorem numberG (l : List UInt8) (hl : l.length ≤ 1048576) (w : World) (h : Lib8 w) :
    Calls Tryz.prog 77 #[.string ⟨l.toArray⟩] w fun e w' => e = .returned (.tuple #[.int .i64 (numZ l), .bool (numB l)]) ∧ Below w.heap.size w w' := by
  obtain ⟨ht, hg, ⟨tp, p, hs⟩, ⟨tq, q, hr⟩, _⟩ := h
  refine (implNumber ⟨l.toArray⟩ (by simpa [ByteArray.size] using hl) tp tq p q w ht hg hs hr).mono fun e w' k => ⟨?_, k.2⟩
  rw [← numE_zb]
  exact nr_numE k.1
theorem cutG (c : UInt8) (u a b : List UInt8) (p : Bool) (h : Lib.cut u [c] = (a, b, p)) (hs : u.length ≤ 1048576) (w : World) (hL : Lib8 w) :
    Calls Tryz.prog 58 #[.string ⟨u.toArray⟩, .string ⟨#[c]⟩] w fun e w' => e = .returned (.tuple #[.string ⟨a.toArray⟩, .string ⟨b.toArray⟩, .bool p]) ∧ Below w.heap.size w w' := by
  obtain ⟨m, hm⟩ := hL.mx
  refine (Tryz.strings_Cut ⟨u.toArray⟩ ⟨#[c]⟩ m w (by simp only [ByteArray.size, List.size_toArray]; omega) hm).mono fun e w' ⟨he, n, hw⟩ => ⟨?_, ?_⟩
  · have h2 : Lib.cut (ByteArray.mk u.toArray).data.toList (ByteArray.mk #[c]).data.toList = (a, b, p) := h
    rw [he, h2]
  · rw [hw]; exact below_drewN (Below.refl _ _) n

/-- A rate, the program's way. -/
noncomputable def rdZ (l : List UInt8) : Int × Int × Bool :=
  match numV (Lib.cut l [47]).1, numV (Lib.cut l [47]).2.1 with
  | some n, some d => (n, d, true)
  | _, _ => (0, 0, false)
theorem num_no47 {l : List UInt8} {n : Int} (h : numV l = some n) : ∀ x ∈ l, x ≠ 47 := by
  have hn := numV_is h
  have hl : l = Lib.itoa n := hn.1.2.2.symm
  intro x hx
  rw [hl] at hx
  exact dig_ne (itoa_dig hn.2.1 x hx) (by decide)
theorem rate_no {l : List UInt8} {n d : Int} (h : rdZ l = (n, d, false)) : n = 0 ∧ d = 0 ∧ rateV l = (0, 0, 12) := by
  rcases cut_point 47 l with ⟨hno, hc⟩ | ⟨a, b, rfl, ha, hc⟩
  · have e : rdZ l = (0, 0, false) := by
      unfold rdZ
      rw [hc]
      simp only
      rw [numV_nil]
      cases numV l <;> rfl
    rw [e] at h
    simp only [Prod.mk.injEq] at h
    exact ⟨h.1.symm, h.2.1.symm, rateV_len (parts_none hno) (by simp)⟩
  · unfold rdZ at h
    rw [hc] at h
    simp only at h
    by_cases hb : ∀ x ∈ b, x ≠ 47
    · have hp : partsL 47 (a ++ 47 :: b) = [a, b] := by rw [parts_cut b ha, parts_none hb]
      cases hna : numV a with
      | none =>
        rw [hna] at h
        simp only [Prod.mk.injEq] at h
        exact ⟨h.1.symm, h.2.1.symm, rateV_none1 hp hna⟩
      | some x =>
        cases hnb : numV b with
        | none =>
          rw [hna, hnb] at h
          simp only [Prod.mk.injEq] at h
          exact ⟨h.1.symm, h.2.1.symm, rateV_none2 hp hnb⟩
        | some y =>
          rw [hna, hnb] at h
          simp at h
    · have hnb : numV b = none := by
        cases hnb : numV b with
        | none => rfl
        | some y => exact absurd (num_no47 hnb) hb
      rw [hnb] at h
      have e : (n, d) = ((0 : Int), (0 : Int)) := by
        cases hna : numV a <;> rw [hna] at h <;> simp only [Prod.mk.injEq] at h <;> rw [← h.1, ← h.2.1]
      simp only [Prod.mk.injEq] at e
      refine ⟨e.1, e.2, rateV_len (parts_cut b ha) ?_⟩
      rcases cut_point 47 b with ⟨hno, _⟩ | ⟨a2, b2, rfl, ha2, _⟩
      · exact absurd hno hb
      · rw [parts_cut b2 ha2]
        have := parts_pos (c := 47) b2
        simp only [List.length_cons]
        omega
theorem rate_yes {l : List UInt8} {n d : Int} (h : rdZ l = (n, d, true)) : rateV l = if inZ n 1 1000 = true ∧ inZ d 1 1000 = true ∧ n ≤ d then (n, d, 0) else (0, 0, 13) := by
  rcases cut_point 47 l with ⟨hno, hc⟩ | ⟨a, b, rfl, ha, hc⟩
  · exfalso
    unfold rdZ at h
    rw [hc] at h
    simp only at h
    rw [numV_nil] at h
    cases hn : numV l <;> rw [hn] at h <;> simp at h
  · unfold rdZ at h
    rw [hc] at h
    simp only at h
    cases hna : numV a with
    | none => rw [hna] at h; simp at h
    | some x =>
      cases hnb : numV b with
      | none => rw [hna, hnb] at h; simp at h
      | some y =>
        rw [hna, hnb] at h
        simp only [Prod.mk.injEq, and_true] at h
        obtain ⟨rfl, rfl⟩ := h
        have hp : partsL 47 (a ++ 47 :: b) = [a, b] := by rw [parts_cut b ha, parts_none (num_no47 hnb)]
        by_cases hin : inZ x 1 1000 = true ∧ inZ y 1 1000 = true ∧ x ≤ y
        · rw [if_pos hin, rateV_in hp hna hnb hin]
        · rw [if_neg hin, rateV_out hp hna hnb hin]

/-- What the program lays for a key: the code of its fault, and the settings. -/
noncomputable def rawV (C : Cfg) (k : Nat) (l : List UInt8) : Nat × Cfg :=
  if k = 6 then (match signsV l with | some s => (0, { C with s := s }) | none => (14, { C with s := [] }))
  else if k = 5 then (if (rdZ l).2.2 = true then 0 else 12, { C with n := (rdZ l).1, e := (rdZ l).2.1 })
  else (if numB l = true then 0 else 12, setC k (numZ l) C)
theorem num_set {C : Cfg} {k : Nat} (hk : k < 5) (z : Int) : numC k (setC k z C) = z := by
  rcases (by omega : k = 0 ∨ k = 1 ∨ k = 2 ∨ k = 3 ∨ k = 4) with rfl | rfl | rfl | rfl | rfl <;> rfl
theorem raw_lay {C D : Cfg} {k c : Nat} {l : List UInt8} (hk : k < 7) (hok : okC C = true) (h : rawV C k l = (c, D)) :
    (c ≠ 0 → (layV C k l).2 = c) ∧ (c = 0 → okC D = true → layV C k l = (D, 0)) ∧ (c = 0 → okC D = false → (layV C k l).2 = 13) := by
  have hv := fun h0 => layV_ok (D := C) (l := l) hk hok h0
  unfold rawV at h
  by_cases h6 : k = 6
  · rw [if_pos h6] at h
    cases hs : signsV l with
    | some s =>
      have hl : layV C k l = ({ C with s := s }, 0) := by rw [layV, if_pos h6, hs]
      rw [hs] at h
      simp only [Prod.mk.injEq] at h
      obtain ⟨rfl, rfl⟩ := h
      refine ⟨fun h => absurd rfl h, fun _ _ => hl, fun _ h => ?_⟩
      have h2 := hv (by rw [hl])
      rw [hl] at h2
      rw [h2] at h
      cases h
    | none =>
      have hl : layV C k l = ({ C with s := [] }, 14) := by rw [layV, if_pos h6, hs]
      rw [hs] at h
      simp only [Prod.mk.injEq] at h
      obtain ⟨rfl, rfl⟩ := h
      exact ⟨fun _ => by rw [hl], fun h => by omega, fun h => by omega⟩
  · rw [if_neg h6] at h
    by_cases h5 : k = 5
    · rw [if_pos h5] at h
      have hl : layV C k l = ({ C with n := (rateV l).1, e := (rateV l).2.1 }, (rateV l).2.2) := by rw [layV, if_neg h6, if_pos h5]
      obtain ⟨n, d, b, hr⟩ : ∃ n d b, rdZ l = (n, d, b) := ⟨_, _, _, rfl⟩
      rw [hr] at h
      cases b with
      | false =>
        obtain ⟨rfl, rfl, hrv⟩ := rate_no hr
        rw [hrv] at hl
        simp only [Prod.mk.injEq] at h
        obtain ⟨rfl, _⟩ := h
        exact ⟨fun _ => by rw [hl]; rfl, fun h => by simp at h, fun h => by simp at h⟩
      | true =>
        have hrv := rate_yes hr
        simp only [Prod.mk.injEq] at h
        obtain ⟨rfl, rfl⟩ := h
        refine ⟨fun h => absurd rfl h, fun _ ho => ?_, fun _ ho => ?_⟩
        · have hi := okC_iff.1 ho
          rw [if_pos ⟨inZ_iff.2 ⟨hi.2.2.2.2.2.2.2.1.1, Int.le_trans hi.2.2.2.2.2.2.2.1.2 hi.2.2.2.2.2.2.1.2⟩, inZ_iff.2 hi.2.2.2.2.2.2.1, hi.2.2.2.2.2.2.2.1.2⟩] at hrv
          rw [hl, hrv]
        · by_cases hin : inZ n 1 1000 = true ∧ inZ d 1 1000 = true ∧ n ≤ d
          · rw [if_pos hin] at hrv
            have h2 := hv (by rw [hl, hrv])
            rw [hl, hrv] at h2
            simp only at h2
            rw [h2] at ho
            cases ho
          · rw [if_neg hin] at hrv
            rw [hl, hrv]
    · rw [if_neg h5] at h
      have hk5 : k < 5 := by omega
      cases hn : numV l with
      | none =>
        have hl : layV C k l = (C, 12) := by rw [layV, if_neg h6, if_neg h5, hn]
        have e : numB l = false := by rw [numB, hn]; rfl
        rw [e] at h
        simp only [Prod.mk.injEq] at h
        obtain ⟨rfl, _⟩ := h
        exact ⟨fun _ => by rw [hl]; rfl, fun h => by simp at h, fun h => by simp at h⟩
      | some z =>
        have hl := layV_num (C := C) hk5 hn
        have e : numB l = true := by rw [numB, hn]; rfl
        have e2 : numZ l = z := by rw [numZ, hn]; rfl
        rw [e, e2] at h
        simp only [Prod.mk.injEq] at h
        obtain ⟨rfl, rfl⟩ := h
        refine ⟨fun h => absurd rfl h, fun _ ho => ?_, fun _ ho => ?_⟩
        · have hr := num_range ho hk5
          rw [num_set hk5] at hr
          rw [if_pos (inZ_iff.2 ⟨hr.1, hr.2.1⟩)] at hl
          exact hl
        · by_cases hin : inZ z (leastC k) (mostC k) = true
          · rw [if_pos hin] at hl
            have h2 := hv (by rw [hl])
            rw [hl] at h2
            simp only at h2
            rw [h2] at ho
            cases ho
          · rw [if_neg hin] at hl
            rw [hl]

/-- Nothing that lay there has turned but two blocks. -/
structure Only (cb ub : Nat) (w w' : World) : Prop where
  os : w'.os = w.os
  tape : w'.tape = w.tape
  output : w'.output = w.output
  size : w.heap.size ≤ w'.heap.size
  block : ∀ k, k < w.heap.size → k ≠ cb → k ≠ ub → w'.heap[k]? = w.heap[k]?
theorem Only.refl (cb ub : Nat) (w : World) : Only cb ub w w := ⟨rfl, rfl, rfl, Nat.le_refl _, fun _ _ _ _ => rfl⟩
theorem Only.trans {cb ub : Nat} {w w1 w2 : World} (h : Only cb ub w w1) (k : Only cb ub w1 w2) : Only cb ub w w2 :=
  ⟨k.os.trans h.os, k.tape.trans h.tape, k.output.trans h.output, Nat.le_trans h.size k.size, fun i hi h1 h2 => (k.block i (by have := h.size; omega) h1 h2).trans (h.block i hi h1 h2)⟩
theorem Only.of_below {cb ub : Nat} {w w' : World} (h : Below w.heap.size w w') : Only cb ub w w' := ⟨h.os, h.tape, h.output, h.size, fun i hi _ _ => h.block i hi⟩
theorem Only.of_grown {cb ub : Nat} {w w' : World} (h : w.grownBy w' (some ub)) : Only cb ub w w' := ⟨h.os, h.tape, h.output, h.size, fun i hi _ h2 => h.block i hi (by simpa using h2)⟩
theorem Only.put (cb ub : Nat) (w : World) (j : Nat) (v : Value) : Only cb ub w (w.setCell ⟨cb, j, none⟩ v) := by
  have h := (Below.refl cb w).setCell (p := ⟨cb, j, none⟩) (Nat.le_refl _) v
  exact ⟨h.os, h.tape, h.output, h.size, fun i _ h1 _ => heap_setCell_other _ _ _ _ h1⟩
theorem Only.below {cb ub : Nat} {W w w' : World} (h : Only cb ub w w') (hB : Below W.heap.size W w) (h1 : W.heap.size ≤ cb) (h2 : W.heap.size ≤ ub) : Below W.heap.size W w' :=
  ⟨h.os.trans hB.os, h.tape.trans hB.tape, h.output.trans hB.output, Nat.le_trans hB.size h.size, fun i hi => (h.block i (by have := hB.size; omega) (by omega) (by omega)).trans (hB.block i hi)⟩
theorem Only.owns {cb ub : Nat} {w w' : World} (h : Only cb ub w w') {base n : Nat} {T : TypeId} {v : Value} {xs : List Value} (ho : w.ownsRow base T 1 v n xs) (h1 : v.ownBlock ≠ some cb) (h2 : v.ownBlock ≠ some ub) : w'.ownsRow base T 1 v n xs := by
  refine ⟨ho.1, ?_⟩
  rcases ho.2 with h0 | ⟨g, cap, cur, rfl, hb, hc, k1, k2, k3, k4⟩
  · exact Or.inl h0
  · exact Or.inr ⟨g, cap, cur, rfl, hb, (h.block g (blk_lt hc) (fun e => h1 (by rw [e]; rfl)) (fun e => h2 (by rw [e]; rfl))).trans hc, k1, k2, k3, k4⟩
theorem owns_ne_map {w : World} {base n m b : Nat} {D : DataW Unit} {T : TypeId} {v : Value} {xs : List Value} (ho : w.ownsRow base T 1 v n xs) (h : MapAt w b m D) : v.ownBlock ≠ some b := by
  obtain ⟨es, clock, hm, _⟩ := h
  rcases ho.2 with ⟨rfl, _⟩ | ⟨g, cap, cur, rfl, _, hc, _⟩
  · simp [Value.ownBlock]
  · intro e
    have : g = b := by simpa [Value.ownBlock] using e
    subst this
    rw [hm] at hc
    cases hc

/-- What the reading keeps: the settings' box, their signs, and the keys that no line has named. -/
structure RdS (W wr : World) (cb ub : Nat) (D : Cfg) (v : Value) (mt : List Nat) : Prop where
  box : wr.heap[cb]? = some (.cells (cfgA D v) 26 (0, 0))
  own : wr.ownsRow W.heap.size 3 1 v D.s.length (intCells D.s)
  map : ∃ M, MapAt wr ub 7 M ∧ Unmet M mt
theorem RdS.next {W wr w' : World} {cb ub : Nat} {D : Cfg} {v : Value} {mt : List Nat} (h : RdS W wr cb ub D v mt) (hB : Below wr.heap.size wr w') : RdS W w' cb ub D v mt := by
  obtain ⟨M, hM, hU⟩ := h.map
  exact ⟨blk_next h.box hB, ownsI_below h.own hB, M, hM.kept (row := none) ⟨hB.os, hB.tape, hB.output, hB.size, fun k hk _ => hB.block k hk⟩ (by simp), hU⟩
theorem RdS.ne {W wr : World} {cb ub : Nat} {D : Cfg} {v : Value} {mt : List Nat} (h : RdS W wr cb ub D v mt) : ub ≠ cb := by
  obtain ⟨M, ⟨es, clock, hm, _⟩, _⟩ := h.map
  rintro rfl
  have hb := h.box
  rw [hm] at hb
  cases hb
theorem RdS.strike {W wr w' : World} {cb ub k : Nat} {D : Cfg} {v : Value} {mt : List Nat} {M : DataW Unit} (h : RdS W wr cb ub D v mt) (hU : Unmet M mt) (hk : k < 7) (hM : MapAt w' ub 7 (M.del (.string (wordL k)))) (hg : wr.grownBy w' (some ub)) : RdS W w' cb ub D v (k :: mt) := by
  obtain ⟨M0, hM0, _⟩ := h.map
  refine ⟨(hg.block cb (blk_lt h.box) (by have := h.ne; simp; omega)).trans h.box, ?_, _, hM, hU.del hk⟩
  exact (Only.of_grown (cb := ub) hg).owns h.own (owns_ne_map h.own hM0) (owns_ne_map h.own hM0)
theorem RdS.put {W wr : World} {cb ub j : Nat} {D E : Cfg} {v u x : Value} {mt : List Nat} (h : RdS W wr cb ub D v mt) (he : (cfgA D v).setIfInBounds j x = cfgA E u) (ho : wr.ownsRow W.heap.size 3 1 u E.s.length (intCells E.s)) : RdS W (wr.setCell ⟨cb, j, none⟩ x) cb ub E u mt := by
  obtain ⟨M, hM, hU⟩ := h.map
  refine ⟨by rw [← he]; exact heap_setCell_same _ _ _ _ _ _ h.box, ownsRow_setCell_other ho (owns_ne_blk ho h.box (by decide)) _, M, hM.setCell (a := ⟨cb, j, none⟩) h.ne x, hU⟩
end Go.Proofs.YtnnbhgnllbjmeaaGreatDoor
