/-
  The walk of the law on Digits.
-/
import Derived.Test.YtlhfnmcjolonfaaDoorDrawN
import Derived.Test.YtlhfnmcjolonfaaDoorLaws1
namespace Go.Proofs.YtlhfnmcjolonfaaDoor
open Go.RowKit

theorem Bytes.mono {w w' : World} {v : Value} {n : Nat} (h : Bytes w v n) (hB : Below w.heap.size w w') : Bytes w' v n := by
  rcases h with ⟨c, rfl, rfl⟩ | ⟨a, c, rfl, rfl⟩ | ⟨b, off, c, rfl, hn, hcell⟩
  · exact Or.inl ⟨c, rfl, rfl⟩
  · exact Or.inr (Or.inl ⟨a, c, rfl, rfl⟩)
  · refine Or.inr (Or.inr ⟨b, off, c, rfl, hn, fun j hj => ?_⟩)
    obtain ⟨hb, z, z0, z1, hz⟩ := hcell j hj
    exact ⟨Nat.lt_of_lt_of_le hb hB.size, z, z0, z1, (hB.cell (p := ⟨b, off + j, none⟩) hb).trans hz⟩

theorem Bytes.shape {w : World} {v : Value} {n : Nat} (h : Bytes w v n) : ∃ a c, v = .slice a n c := by
  rcases h with ⟨c, rfl, rfl⟩ | ⟨a, c, rfl, rfl⟩ | ⟨b, off, c, rfl, _, _⟩
  · exact ⟨_, _, rfl⟩
  · exact ⟨_, _, rfl⟩
  · exact ⟨_, _, rfl⟩

theorem big_yes (w : World) (v : Value) (n : Nat) (hb : Bytes w v n) (h : 1048576 < n) :
    Calls Tryd.prog 9 #[v] w fun e w' => e = .returned (.bool true) ∧ w = w' := by
  have hn : (1048576 : Int) < n := by omega
  obtain ⟨a, c, rfl⟩ := hb.shape
  clear hb
  go_enter Tryd.func9, Tryd.ntmps9
  go_wp2
  go_ret
  exact ⟨by first | (simp; done) | (simp; omega), rfl⟩
theorem big_no (w : World) (v : Value) (n : Nat) (hb : Bytes w v n) (h : ¬ 1048576 < n) :
    Calls Tryd.prog 9 #[v] w fun e w' => e = .returned (.bool false) ∧ w = w' := by
  have hn : ¬ (1048576 : Int) < n := by omega
  obtain ⟨a, c, rfl⟩ := hb.shape
  clear hb
  go_enter Tryd.func9, Tryd.ntmps9
  go_wp2
  go_ret
  exact ⟨by first | (simp; done) | (simp; omega), rfl⟩

/-- What the walks over the library's variables ask of the world. -/
structure Lib5 (w : World) : Prop where
  tab : Lib.TabIs Tryd.prog w "internal/strconv.uint64pow10" .u64 Lib.pow10Tab
  hg : 2 < w.heap.size
  errS : ∃ tp p, w.var? Tryd.prog "strconv.ErrSyntax" = some #[.iface tp p]
  errR : ∃ tp p, w.var? Tryd.prog "strconv.ErrRange" = some #[.iface tp p]
theorem Lib5.mono {w w' : World} (h : Lib5 w) (hB : Below w.heap.size w w') : Lib5 w' := by
  obtain ⟨ht, hg, ⟨tp, p, hs⟩, ⟨tq, q, hr⟩⟩ := h
  exact ⟨tabIs_below ht hB gPow hg, Nat.lt_of_lt_of_le hg hB.size, ⟨tp, p, var?_below hB gES (var_lt gES hs) hs⟩, ⟨tq, q, var?_below hB gER (var_lt gER hr) hr⟩⟩

theorem implIntText5 (s : ByteArray) (hsz : s.size ≤ 1048576) (w : World) (h : Lib5 w) :
    Calls Tryd.prog 11 #[.string s] w fun e w' => ItPost s.data.toList e ∧ Below w.heap.size w w' := by
  obtain ⟨ht, hg, ⟨tp, p, hs⟩, ⟨tq, q, hr⟩⟩ := h
  exact implIntText s hsz tp tq p q w ht hg hs hr
theorem implNumber5 (s : ByteArray) (hsz : s.size ≤ 1048576) (w : World) (h : Lib5 w) :
    Calls Tryd.prog 15 #[.string s] w fun e w' => NrPost s.data.toList e ∧ Below w.heap.size w w' := by
  obtain ⟨ht, hg, ⟨tp, p, hs⟩, ⟨tq, q, hr⟩⟩ := h
  exact implNumber s hsz tp tq p q w ht hg hs hr

theorem bt {a b c : World} (h : Below a.heap.size a b) (k : Below b.heap.size b c) : Below a.heap.size a c := h.trans (k.mono h.size)

theorem itPost_num {l : List UInt8} {n : Int} (h : IsNum l n) {e : Ending} (hp : ItPost l e) : e = .returned (.tuple #[.int .i64 n, .bool true]) := by
  rcases hp with ⟨m, hm, he⟩ | ⟨hno, _⟩
  · rw [he, isNum_one h hm]
  · exact absurd h (hno n)
theorem itPost_no {l : List UInt8} (h : ∀ n, ¬ IsNum l n) {e : Ending} (hp : ItPost l e) : e = .returned (.tuple #[.int .i64 0, .bool false]) := by
  rcases hp with ⟨m, hm, _⟩ | ⟨_, he⟩
  · exact absurd hm (h m)
  · exact he
theorem nrPost_in {l : List UInt8} {n : Int} (h : IsNum l n) (h0 : 0 ≤ n) (h1 : n ≤ 999999999) {e : Ending} (hp : NrPost l e) : e = .returned (.tuple #[.int .i64 n, .bool true]) := by
  rcases hp with ⟨m, hm, _, _, he⟩ | ⟨hno, _⟩
  · rw [he, isNum_one h hm]
  · have := hno n h; omega
theorem nrPost_out {l : List UInt8} (h : ∀ n, IsNum l n → n < 0 ∨ 999999999 < n) {e : Ending} (hp : NrPost l e) : e = .returned (.tuple #[.int .i64 0, .bool false]) := by
  rcases hp with ⟨m, hm, a, b, _⟩ | ⟨_, he⟩
  · have := h m hm; omega
  · exact he

set_option maxRecDepth 100000 in
set_option maxHeartbeats 2000000 in
theorem lawFnDigits (w : World) (v : Value) (n : Nat) (hb : Bytes w v n) (hL : Lib5 w) :
    Calls Tryd.prog 3 #[v] w fun e w' => e = .returned (.bool true) ∧ Below w.heap.size w w' := by
  by_cases hbig : 1048576 < n
  · go_enter Tryd.func3, Tryd.ntmps3
    go_wp2_with fail
    refine (big_yes w v n hb hbig).mono ?_
    rintro e w1 ⟨rfl, rfl⟩
    go_wp2_with fail
    go_ret
    exact ⟨rfl, Below.refl _ _⟩
  · go_enter Tryd.func3, Tryd.ntmps3
    go_wp2_with fail
    refine (big_no w v n hb hbig).mono ?_
    rintro e w1 ⟨rfl, rfl⟩
    go_wp2_with fail
    refine (drawDigits w v n hb).mono ?_
    rintro e w1 ⟨⟨z, z0, z1, rfl⟩, hB1⟩
    have hL1 := hL.mono hB1
    have hb1 := hb.mono hB1
    go_wp2_with fail
    refine (implDigits z z0 z1 w1 hL1.tab).mono ?_
    rintro e w2 ⟨rfl, hB2⟩
    have hL2 := hL1.mono hB2
    have hb2 := hb1.mono hB2
    have hB02 := bt hB1 hB2
    have hlen := Lib.itoa_length_le z z0 z1
    have hsz : (ByteArray.mk (Lib.itoa z).toArray).size ≤ 1048576 := by
      show (Lib.itoa z).toArray.size ≤ 1048576
      simp; omega
    go_wp2_with fail
    refine (implIntText5 _ hsz w2 hL2).mono ?_
    rintro e w3 ⟨hp, hB3⟩
    obtain rfl := itPost_num (n := z) ⟨z0, z1, by simp⟩ hp
    clear hp hsz hlen
    have hL3 := hL2.mono hB3
    have hb3 := hb2.mono hB3
    have hB03 := bt hB02 hB3
    go_wp2_with fail
    refine (drawIntText w3 v n hb3).mono ?_
    rintro e w4 ⟨⟨s, hs, rfl⟩, hB4⟩
    have hL4 := hL3.mono hB4
    have hB04 := bt hB03 hB4
    have hsz : s.size ≤ 1048576 := by omega
    clear hL hL1 hL2 hL3 hb hb1 hb2 hb3 hB1 hB2 hB3 hB4 hB02 hB03
    by_cases hx : ∃ x, IsNum s.data.toList x
    · obtain ⟨x, hnx⟩ := hx
      have HN := Lib.hid hnx
      have hx0 := hnx.1
      have hx1 := hnx.2.1
      have HQ : Hid (Lib.itoa x = s.toList) := by show Lib.itoa x = s.toList; rw [ByteArray.toList_eq]; exact hnx.2.2
      clear hnx
      by_cases hr : 0 ≤ x ∧ x ≤ 999999999
      · obtain ⟨hr0, hr1⟩ := hr
        go_wp2_with fail
        refine (implIntText5 s hsz w4 hL4).mono ?_
        rintro e w5 ⟨hp, hB5⟩
        obtain rfl := itPost_num HN.out hp
        clear hp
        have hL5 := hL4.mono hB5
        have hB05 := bt hB04 hB5
        go_wp2_with fail
        refine (specIntText s w5).mono ?_
        rintro e w6 ⟨hp, hB6⟩
        obtain rfl := itPost_num HN.out hp
        clear hp
        have hL6 := hL5.mono hB6
        have hB06 := bt hB05 hB6
        go_wp2_with fail
        refine (implNumber5 s hsz w6 hL6).mono ?_
        rintro e w7 ⟨hp, hB7⟩
        obtain rfl := nrPost_in HN.out hr0 hr1 hp
        clear hp
        have hL7 := hL6.mono hB7
        have hB07 := bt hB06 hB7
        clear hL4 hL5 hL6 hB04 hB05 hB06 hB5 hB6 hB7
        go_wp2_with fail
        refine (implDigits x hx0 hx1 w7 hL7.tab).mono ?_
        rintro e w8 ⟨rfl, hB8⟩
        have hq := HQ.out
        go_wp2_with fail
        go_ret
        exact ⟨by first | rfl | (simp; omega), bt hB07 hB8⟩
      · have HO : Hid (∀ n, IsNum s.data.toList n → n < 0 ∨ 999999999 < n) := fun m hm => by
          rw [← isNum_one HN.out hm]; omega
        by_cases hneg : x < 0
        · clear hr
          go_wp2_with fail
          refine (implIntText5 s hsz w4 hL4).mono ?_
          rintro e w5 ⟨hp, hB5⟩
          obtain rfl := itPost_num HN.out hp
          clear hp
          have hL5 := hL4.mono hB5
          have hB05 := bt hB04 hB5
          go_wp2_with fail
          refine (specIntText s w5).mono ?_
          rintro e w6 ⟨hp, hB6⟩
          obtain rfl := itPost_num HN.out hp
          clear hp
          have hL6 := hL5.mono hB6
          have hB06 := bt hB05 hB6
          go_wp2_with fail
          refine (implNumber5 s hsz w6 hL6).mono ?_
          rintro e w7 ⟨hp, hB7⟩
          obtain rfl := nrPost_out HO.out hp
          clear hp
          have hL7 := hL6.mono hB7
          have hB07 := bt hB06 hB7
          clear hL4 hL5 hL6 hB04 hB05 hB06 hB5 hB6 hB7
          go_wp2_with fail
          refine (implDigits x hx0 hx1 w7 hL7.tab).mono ?_
          rintro e w8 ⟨rfl, hB8⟩
          have hq := HQ.out
          go_wp2_with fail
          go_ret
          exact ⟨by first | rfl | (simp; omega), bt hB07 hB8⟩
        · have hx2 : 999999999 < x := by omega
          clear hr
          go_wp2_with fail
          refine (implIntText5 s hsz w4 hL4).mono ?_
          rintro e w5 ⟨hp, hB5⟩
          obtain rfl := itPost_num HN.out hp
          clear hp
          have hL5 := hL4.mono hB5
          have hB05 := bt hB04 hB5
          go_wp2_with fail
          refine (specIntText s w5).mono ?_
          rintro e w6 ⟨hp, hB6⟩
          obtain rfl := itPost_num HN.out hp
          clear hp
          have hL6 := hL5.mono hB6
          have hB06 := bt hB05 hB6
          go_wp2_with fail
          refine (implNumber5 s hsz w6 hL6).mono ?_
          rintro e w7 ⟨hp, hB7⟩
          obtain rfl := nrPost_out HO.out hp
          clear hp
          have hL7 := hL6.mono hB7
          have hB07 := bt hB06 hB7
          clear hL4 hL5 hL6 hB04 hB05 hB06 hB5 hB6 hB7
          go_wp2_with fail
          refine (implDigits x hx0 hx1 w7 hL7.tab).mono ?_
          rintro e w8 ⟨rfl, hB8⟩
          have hq := HQ.out
          go_wp2_with fail
          go_ret
          exact ⟨by first | rfl | (simp; omega), bt hB07 hB8⟩
    · have HN : Hid (∀ x, ¬ IsNum s.data.toList x) := fun x hn => hx ⟨x, hn⟩
      have HO : Hid (∀ n, IsNum s.data.toList n → n < 0 ∨ 999999999 < n) := fun m hm => absurd hm (HN.out m)
      clear hx
      go_wp2_with fail
      refine (implIntText5 s hsz w4 hL4).mono ?_
      rintro e w5 ⟨hp, hB5⟩
      obtain rfl := itPost_no HN.out hp
      clear hp
      have hL5 := hL4.mono hB5
      have hB05 := bt hB04 hB5
      go_wp2_with fail
      refine (specIntText s w5).mono ?_
      rintro e w6 ⟨hp, hB6⟩
      obtain rfl := itPost_no HN.out hp
      clear hp
      have hL6 := hL5.mono hB6
      have hB06 := bt hB05 hB6
      go_wp2_with fail
      refine (implNumber5 s hsz w6 hL6).mono ?_
      rintro e w7 ⟨hp, hB7⟩
      obtain rfl := nrPost_out HO.out hp
      clear hp
      have hL7 := hL6.mono hB7
      have hB07 := bt hB06 hB7
      clear hL4 hL5 hL6 hB04 hB05 hB06 hB5 hB6 hB7
      go_wp2_with fail
      go_ret
      exact ⟨rfl, hB07⟩
end Go.Proofs.YtlhfnmcjolonfaaDoor
