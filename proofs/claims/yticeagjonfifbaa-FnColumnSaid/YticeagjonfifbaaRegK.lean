/-
  A region that draws its order, whose last operations store into cells that it loads: what S says of the world is asked only as long as operation k has not come up; what H says, always.
-/
import Derived.Test.YticeagjonfifbaaProg
import Derived.OrdersHeld
import Derived.RegionTactic
import Derived.Deep.RegionHeld
namespace Go.Proofs.Yticeagjonfifbaa

/-- Any order from here on; S holds behind each operation, as long as number k is still to come; H always. -/
def AnyK (P : Program) (ops : Array Oper) (Q : Exit → Act → World → Prop) (S H : World → Prop) (k : Nat) (fuel : Nat) : Array Bool → Act → World → Prop :=
  Nat.rec (motive := fun _ => Array Bool → Act → World → Prop) (fun l a w => Region.ready .any ops l = [] ∧ Q .normal a w)
    (fun _ r l a w => (Region.ready .any ops l = [] → Q .normal a w) ∧ ∀ j ∈ Region.ready .any ops l, wpOp P ops Q j (fun a' w' => (((l.setIfInBounds j true).getD k true = false → S w') ∧ H w') ∧ r (l.setIfInBounds j true) a' w') a w) fuel
section
variable {P : Program} {ops : Array Oper} {Q : Exit → Act → World → Prop} {S H : World → Prop} {k : Nat}
theorem anyK_zero {l : Array Bool} {a : Act} {w : World} : AnyK P ops Q S H k 0 l a w ↔ (Region.ready .any ops l = [] ∧ Q .normal a w) := Iff.rfl
theorem anyK_succ {n : Nat} {l : Array Bool} {a : Act} {w : World} : AnyK P ops Q S H k (n + 1) l a w ↔ ((Region.ready .any ops l = [] → Q .normal a w) ∧ ∀ j ∈ Region.ready .any ops l, wpOp P ops Q j (fun a' w' => (((l.setIfInBounds j true).getD k true = false → S w') ∧ H w') ∧ AnyK P ops Q S H k n (l.setIfInBounds j true) a' w') a w) := Iff.rfl
theorem any_of_K : ∀ (n : Nat) (l : Array Bool) (a : Act) (w : World), AnyK P ops Q S H k n l a w → wpAny P .any ops Q n l a w
  | 0, _, _, _, h => h
  | n + 1, _, _, _, h => ⟨h.1, fun j hj => wpOp_mono (fun a' w' g => any_of_K n _ a' w' g.2) (h.2 j hj)⟩
/-- Whether number k waits for number i. -/
def waitsB (ops : Array Oper) (k i : Nat) : Bool := match ops[k]? with | some o => o.after.any (fun e => Region.binds .any e && e.on == i) | none => false
theorem waits_not {k i : Nat} {l : Array Bool} (h : waitsB ops k i = true) (hi : l.getD i true = false) : ¬ k ∈ Region.ready .any ops l := by
  intro hk
  obtain ⟨_, o, ho, hall⟩ := mem_ready.1 hk
  rw [waitsB, ho] at h
  obtain ⟨e, he, hb⟩ := Array.any_eq_true'.1 h
  rw [Bool.and_eq_true, beq_iff_eq] at hb
  have g := hall e he hb.1
  rw [hb.2] at g
  have e1 : l.getD i true = l.getD i false := by
    rw [Array.getD_eq_getD_getElem?, Array.getD_eq_getD_getElem?] at *
    cases hx : l[i]? with
    | none => rw [hx] at hi; cases hi
    | some b => rfl
  rw [e1, g] at hi
  cases hi
theorem waits_on {i : Nat} {oj : Oper} {l : Array Bool} (hi : l.getD i true = false) (hall : ∀ e ∈ oj.after, Region.binds .any e = true → l.getD e.on false = true) : ∀ e ∈ oj.after, Region.binds .any e = true → e.on ≠ i := by
  intro e he hb heq
  have g := hall e he hb
  rw [heq, Array.getD_eq_getD_getElem?] at g
  rw [Array.getD_eq_getD_getElem?] at hi
  cases hx : l[i]? with
  | none => rw [hx] at hi; cases hi
  | some b =>
    rw [hx] at g hi
    rw [show b = true from g] at hi
    cases hi
/-- What yields its value wherever S holds may be taken first, if number k waits for it. -/
theorem anyK_first {i : Nat} {oi : Oper} {v : Value} (hi : ops[i]? = some oi) (hsel : ∀ (j : Nat) (o : Oper) cs b, ops[j]? = some o → o.op ≠ .select cs b)
    (hQ : ∀ c a w, Q (.panic c) (a.put oi.dst v) w → Q (.panic c) a w) (hw : waitsB ops k i = true) (hki : i ≠ k) (n : Nat) :
    ∀ (l : Array Bool) (a : Act) (w : World),
      (∀ j oj, ops[j]? = some oj → j ≠ i → l.getD j true = false → (∀ e ∈ oj.after, Region.binds .any e = true → e.on ≠ i) → oi.apart ops oj = true) →
      i ∈ Region.ready .any ops l → l.getD k true = false → YieldsIf P ops S oi v a → S w → H w →
      AnyK P ops Q S H k n (l.setIfInBounds i true) (a.put oi.dst v) w → AnyK P ops Q S H k (n + 1) l a w := by
  induction n with
  | zero =>
    intro l a w _ hr _ hy hS hH G
    refine anyK_succ.2 ⟨fun h => (by rw [h] at hr; cases hr), fun j hj => ?_⟩
    by_cases hji : j = i
    · subst hji
      exact hy.wpOp hi hS ⟨⟨fun _ => hS, hH⟩, G⟩
    · have g := ready_mono hj hji
      rw [(anyK_zero.1 G).1] at g
      cases g
  | succ n ih =>
    intro l a w hfree hr hlk hy hS hH G
    refine anyK_succ.2 ⟨fun h => (by rw [h] at hr; cases hr), fun j hj => ?_⟩
    by_cases hji : j = i
    · subst hji
      exact hy.wpOp hi hS ⟨⟨fun _ => hS, hH⟩, G⟩
    · have h1 := (anyK_succ.1 G).2 j (ready_mono hj hji)
      obtain ⟨hjun, oj, hoj, hall⟩ := mem_ready.1 hj
      have hiun := (mem_ready.1 hr).1
      have hjk : j ≠ k := by
        intro e
        subst e
        exact waits_not hw hiun hj
      have h2 := wpOp_putIf hoj (hfree j oj hoj hji hjun (waits_on hiun hall)) (fun cs b => hsel i oi cs b hi) (fun cs b => hsel j oj cs b hoj) hQ hy h1
      have hfree' : ∀ q oq, ops[q]? = some oq → q ≠ i → (l.setIfInBounds j true).getD q true = false → (∀ e ∈ oq.after, Region.binds .any e = true → e.on ≠ i) → oi.apart ops oq = true := fun q oq hq hqi hun hno => by
        refine hfree q oq hq hqi ?_ hno
        by_cases hjq : j = q
        · subst hjq
          exact hjun
        · rwa [getD_set_ne true hjq] at hun
      refine wpOp_mono (fun a' w' h3 => ?_) h2
      have hSw : S w' := h3.2.1.1 (by rw [getD_set_ne true hjk, getD_set_ne true hki]; exact hlk)
      refine ⟨⟨fun _ => hSw, h3.2.1.2⟩, ih (l.setIfInBounds j true) a' w' hfree' (ready_mono hr (Ne.symm hji)) (by rw [getD_set_ne true hjk]; exact hlk) h3.1 hSw h3.2.1.2 ?_⟩
      rw [Array.setIfInBounds_comm _ _ hji]
      exact h3.2.2
/-- What yields its value wherever H holds may be taken first. -/
theorem anyK_firstH {i : Nat} {oi : Oper} {v : Value} (hi : ops[i]? = some oi) (hsel : ∀ (j : Nat) (o : Oper) cs b, ops[j]? = some o → o.op ≠ .select cs b)
    (hQ : ∀ c a w, Q (.panic c) (a.put oi.dst v) w → Q (.panic c) a w) (hki : i ≠ k) (n : Nat) :
    ∀ (l : Array Bool) (a : Act) (w : World),
      (∀ j oj, ops[j]? = some oj → j ≠ i → l.getD j true = false → (∀ e ∈ oj.after, Region.binds .any e = true → e.on ≠ i) → oi.apart ops oj = true) →
      i ∈ Region.ready .any ops l → YieldsIf P ops H oi v a → (l.getD k true = false → S w) → H w →
      AnyK P ops Q S H k n (l.setIfInBounds i true) (a.put oi.dst v) w → AnyK P ops Q S H k (n + 1) l a w := by
  induction n with
  | zero =>
    intro l a w _ hr hy hS hH G
    refine anyK_succ.2 ⟨fun h => (by rw [h] at hr; cases hr), fun j hj => ?_⟩
    by_cases hji : j = i
    · subst hji
      exact hy.wpOp hi hH ⟨⟨fun e => hS (by rwa [getD_set_ne true hki] at e), hH⟩, G⟩
    · have g := ready_mono hj hji
      rw [(anyK_zero.1 G).1] at g
      cases g
  | succ n ih =>
    intro l a w hfree hr hy hS hH G
    refine anyK_succ.2 ⟨fun h => (by rw [h] at hr; cases hr), fun j hj => ?_⟩
    by_cases hji : j = i
    · subst hji
      exact hy.wpOp hi hH ⟨⟨fun e => hS (by rwa [getD_set_ne true hki] at e), hH⟩, G⟩
    · have h1 := (anyK_succ.1 G).2 j (ready_mono hj hji)
      obtain ⟨hjun, oj, hoj, hall⟩ := mem_ready.1 hj
      have hiun := (mem_ready.1 hr).1
      have h2 := wpOp_putIf hoj (hfree j oj hoj hji hjun (waits_on hiun hall)) (fun cs b => hsel i oi cs b hi) (fun cs b => hsel j oj cs b hoj) hQ hy h1
      have hfree' : ∀ q oq, ops[q]? = some oq → q ≠ i → (l.setIfInBounds j true).getD q true = false → (∀ e ∈ oq.after, Region.binds .any e = true → e.on ≠ i) → oi.apart ops oq = true := fun q oq hq hqi hun hno => by
        refine hfree q oq hq hqi ?_ hno
        by_cases hjq : j = q
        · subst hjq
          exact hjun
        · rwa [getD_set_ne true hjq] at hun
      refine wpOp_mono (fun a' w' h3 => ?_) h2
      have hSw : (l.setIfInBounds j true).getD k true = false → S w' := fun e => h3.2.1.1 (by rw [Array.setIfInBounds_comm _ _ (Ne.symm hji), getD_set_ne true hki]; exact e)
      refine ⟨⟨hSw, h3.2.1.2⟩, ih (l.setIfInBounds j true) a' w' hfree' (ready_mono hr (Ne.symm hji)) h3.1 hSw h3.2.1.2 ?_⟩
      rw [Array.setIfInBounds_comm _ _ hji]
      exact h3.2.2
/-! ### The moves -/
theorem anyK_take {i : Nat} {oi : Oper} {v : Value} {n : Nat} {l : Array Bool} {a : Act} {w : World} (hi : ops[i]? = some oi)
    (hs : Region.noSelect ops = true) (hf : Region.free .any ops l i = true) (hr : (Region.ready .any ops l).contains i = true)
    (hQ : ∀ c a w, Q (.panic c) (a.put oi.dst v) w → Q (.panic c) a w) (hw : (waitsB ops k i && !(i == k) && !l.getD k true) = true) (hy : YieldsIf P ops S oi v a) (hS : S w ∧ H w)
    (h : AnyK P ops Q S H k n (l.setIfInBounds i true) (a.put oi.dst v) w) : AnyK P ops Q S H k (n + 1) l a w := by
  rw [Bool.and_eq_true, Bool.and_eq_true, Bool.not_eq_true', Bool.not_eq_true', beq_eq_false_iff_ne] at hw
  exact anyK_first hi (Region.noSelect_spec hs) hQ hw.1.1 hw.1.2 n l a w (Region.free_spec hi hf) (by simpa using hr) hw.2 hy hS.1 hS.2 h
theorem anyK_takeH {i : Nat} {oi : Oper} {v : Value} {n : Nat} {l : Array Bool} {a : Act} {w : World} (hi : ops[i]? = some oi)
    (hs : Region.noSelect ops = true) (hf : Region.free .any ops l i = true) (hr : (Region.ready .any ops l).contains i = true)
    (hQ : ∀ c a w, Q (.panic c) (a.put oi.dst v) w → Q (.panic c) a w) (hw : (!(i == k)) = true) (hy : YieldsIf P ops H oi v a) (hS : S w ∧ H w)
    (h : AnyK P ops Q S H k n (l.setIfInBounds i true) (a.put oi.dst v) w) : AnyK P ops Q S H k (n + 1) l a w := by
  rw [Bool.not_eq_true', beq_eq_false_iff_ne] at hw
  exact anyK_firstH hi (Region.noSelect_spec hs) hQ hw n l a w (Region.free_spec hi hf) (by simpa using hr) hy (fun _ => hS.1) hS.2 h
/-- Each of those that may come up comes up. -/
def AllK (P : Program) (ops : Array Oper) (Q : Exit → Act → World → Prop) (S H : World → Prop) (k n : Nat) (l : Array Bool) (a : Act) (w : World) (rs : List Nat) : Prop :=
  ∀ i ∈ rs, wpOp P ops Q i (fun a' w' => (((l.setIfInBounds i true).getD k true = false → S w') ∧ H w') ∧ AnyK P ops Q S H k n (l.setIfInBounds i true) a' w') a w
theorem allK_nil {n : Nat} {l : Array Bool} {a : Act} {w : World} : AllK P ops Q S H k n l a w [] := fun _ h => by cases h
/-- An operation before number k: S is shown anew. -/
theorem allK_cons {n : Nat} {l : Array Bool} {a : Act} {w : World} {i : Nat} {o : Oper} {rs : List Nat} (ho : ops[i]? = some o)
    (h : ∀ K' : Act → World → Prop, Shut (∀ a w, S w ∧ H w → (S w ∧ H w → AnyK P ops Q S H k n (l.setIfInBounds i true) a w) → K' a w) → if Region.wanted o (yielded ops a.tmps) = true then Oper.wp P o a w K' Q else K' (a.put o.dst undef) w)
    (hs : AllK P ops Q S H k n l a w rs) : AllK P ops Q S H k n l a w (i :: rs) := fun j hj => by
  rcases List.mem_cons.1 hj with rfl | hj
  · exact wpOp_step ho (fun K' hK => h K' (fun a w hS hW => hK a w ⟨⟨fun _ => hS.1, hS.2⟩, hW hS⟩))
  · exact hs j hj
/-- Number k itself, or one behind it. -/
theorem allK_past {n : Nat} {l : Array Bool} {a : Act} {w : World} {i : Nat} {o : Oper} (ho : ops[i]? = some o) (hp : (l.setIfInBounds i true).getD k true = true)
    (h : ∀ K' : Act → World → Prop, Shut (∀ a w, H w → (H w → AnyK P ops Q S H k n (l.setIfInBounds i true) a w) → K' a w) → if Region.wanted o (yielded ops a.tmps) = true then Oper.wp P o a w K' Q else K' (a.put o.dst undef) w) : AllK P ops Q S H k n l a w [i] := fun j hj => by
  obtain rfl := List.mem_singleton.1 hj
  exact wpOp_step ho (fun K' hK => h K' (fun a w hH hW => hK a w ⟨⟨fun e => (by rw [hp] at e; cases e), hH⟩, hW hH⟩))
theorem anyK_ready {rs : List Nat} {n : Nat} {l : Array Bool} {a : Act} {w : World} (hr : Region.ready .any ops l = rs) (hne : rs ≠ [])
    (h : AllK P ops Q S H k n l a w rs) : AnyK P ops Q S H k (n + 1) l a w := anyK_succ.2 ⟨fun h0 => absurd (hr ▸ h0) hne, hr ▸ h⟩
theorem anyK_done {l : Array Bool} {a : Act} {w : World} (hr : Region.ready .any ops l = []) (h : Q .normal a w) : ∀ n, AnyK P ops Q S H k n l a w
  | 0 => anyK_zero.2 ⟨hr, h⟩
  | _ + 1 => anyK_succ.2 ⟨fun _ => h, by rw [hr]; simp⟩
theorem wp_region_K {id : Nat} {a : Act} {w : World} (hm : P.follows .mixedOrders = true) (hS : S w.drew ∧ H w.drew)
    (h : S w.drew ∧ H w.drew → AnyK P ops Q S H k ops.size (Array.replicate ops.size false) a w.drew) : (Code.region id ops true).wp P Q a w :=
  wp_region_any hm (any_of_K _ _ _ _ (h hS))
end
end Go.Proofs.Yticeagjonfifbaa
