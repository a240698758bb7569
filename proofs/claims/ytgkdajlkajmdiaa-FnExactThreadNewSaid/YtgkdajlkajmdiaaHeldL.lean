/- A region that draws its order, of which a load reads a cell that the region itself writes behind an append: what holds of the world, till that append comes up, and behind it. Over any program. -/
import Derived.OrdersHeld
import Derived.Deep.RegionHeld
namespace Go.Proofs.Ytgkdajlkajmdiaa
open Go

section
variable {P : Program} {ops : Array Oper} {Q : Exit → Act → World → Prop} {md : Region.Mode} {m : Nat} {A B : World → Prop}

/-- A holds till number m has come up, B always. -/
def HL (m : Nat) (A B : World → Prop) (l : Array Bool) (w : World) : Prop := (l.getD m true = false → A w) ∧ B w
theorem HL.unset {i : Nat} (him : i ≠ m) {l : Array Bool} {w : World} (h : HL m A B (l.setIfInBounds i true) w) : HL m A B l w := ⟨fun e => h.1 (by rw [getD_set_ne true him]; exact e), h.2⟩
theorem HL.set {i : Nat} (him : i ≠ m) {l : Array Bool} {w : World} (h : HL m A B l w) : HL m A B (l.setIfInBounds i true) w := ⟨fun e => h.1 (by rw [getD_set_ne true him] at e; exact e), h.2⟩

def wpAnyL (P : Program) (md : Region.Mode) (ops : Array Oper) (Q : Exit → Act → World → Prop) (m : Nat) (A B : World → Prop) : Nat → Array Bool → Act → World → Prop
  | 0, listed, a, w => Region.ready md ops listed = [] ∧ Q .normal a w
  | fuel + 1, listed, a, w =>
    (Region.ready md ops listed = [] → Q .normal a w) ∧
    ∀ i ∈ Region.ready md ops listed, wpOp P ops Q i (fun a' w' => HL m A B (listed.setIfInBounds i true) w' ∧ wpAnyL P md ops Q m A B fuel (listed.setIfInBounds i true) a' w') a w
theorem wpAny_of_L : ∀ (fuel : Nat) (listed : Array Bool) (a : Act) (w : World), wpAnyL P md ops Q m A B fuel listed a w → wpAny P md ops Q fuel listed a w
  | 0, _, _, _, h => h
  | fuel + 1, _, _, _, h => ⟨h.1, fun i hi => wpOp_mono (fun a' w' h' => wpAny_of_L fuel _ a' w' h'.2) (h.2 i hi)⟩

/-- G is so of what has come up as long as number i has not. -/
theorem wpAnyL_first {i : Nat} (him : i ≠ m) {oi : Oper} {v : Value} {T : World → Prop} (G : Array Bool → Prop) (hT : ∀ l w, G l → HL m A B l w → T w)
    (hG : ∀ l j, G l → l.getD i true = false → j ∈ Region.ready md ops l → j ≠ i → G (l.setIfInBounds j true))
    (hi : ops[i]? = some oi) (hsel : ∀ (j : Nat) (o : Oper) cs b, ops[j]? = some o → o.op ≠ .select cs b) (hQ : ∀ c a w, Q (.panic c) (a.put oi.dst v) w → Q (.panic c) a w) :
    ∀ (fuel : Nat) (listed : Array Bool) (a : Act) (w : World),
      (∀ j oj, ops[j]? = some oj → j ≠ i → listed.getD j true = false → (∀ e ∈ oj.after, Region.binds md e = true → e.on ≠ i) → oi.apart ops oj = true) →
      i ∈ Region.ready md ops listed → G listed → YieldsIf P ops T oi v a → HL m A B listed w →
      wpAnyL P md ops Q m A B fuel (listed.setIfInBounds i true) (a.put oi.dst v) w → wpAnyL P md ops Q m A B (fuel + 1) listed a w := by
  intro fuel
  induction fuel with
  | zero =>
    intro listed a w _ hr hg hy hS H
    refine ⟨fun h => (by rw [h] at hr; cases hr), fun j hj => ?_⟩
    by_cases hji : j = i
    · subst hji; exact hy.wpOp hi (hT _ _ hg hS) ⟨hS.set him, H⟩
    · have := ready_mono hj hji
      rw [H.1] at this
      cases this
  | succ fuel ih =>
    intro listed a w hfree hr hg hy hS H
    refine ⟨fun h => (by rw [h] at hr; cases hr), fun j hj => ?_⟩
    by_cases hji : j = i
    · subst hji; exact hy.wpOp hi (hT _ _ hg hS) ⟨hS.set him, H⟩
    · have h1 := H.2 j (ready_mono hj hji)
      obtain ⟨hjun, oj, hoj, hall⟩ := mem_ready.1 hj
      have hiun := (mem_ready.1 hr).1
      have hnot : ∀ e ∈ oj.after, Region.binds md e = true → e.on ≠ i := fun e he hb heq => by
        have h1 := hall e he hb
        have h0 := hiun
        rw [heq] at h1
        rcases Nat.lt_or_ge i listed.size with h' | h'
        · simp [h'] at h0 h1; rw [h0] at h1; cases h1
        · simp [Array.getElem?_eq_none h'] at h1
      have h2 := wpOp_putIf hoj (hfree j oj hoj hji hjun hnot) (fun cs b => hsel i oi cs b hi) (fun cs b => hsel j oj cs b hoj) hQ hy h1
      have hfree' : ∀ k ok, ops[k]? = some ok → k ≠ i → (listed.setIfInBounds j true).getD k true = false →
          (∀ e ∈ ok.after, Region.binds md e = true → e.on ≠ i) → oi.apart ops ok = true := fun k ok hk hki hun hno => by
        refine hfree k ok hk hki ?_ hno
        by_cases hjk : j = k
        · subst hjk; exact hjun
        · rw [getD_set_ne true hjk] at hun; exact hun
      refine wpOp_mono (fun a' w' h3 => ?_) h2
      obtain ⟨h3, h4, h5⟩ := h3
      rw [Array.setIfInBounds_comm _ _ (Ne.symm hji)] at h4
      have h6 := h4.unset him
      refine ⟨h6, ih (listed.setIfInBounds j true) a' w' hfree' (ready_mono hr (Ne.symm hji)) (hG _ _ hg hiun hj hji) h3 h6 ?_⟩
      rw [Array.setIfInBounds_comm _ _ hji]
      exact h5

/-- Take number i first: what it yields hangs on B alone. -/
theorem wpAnyL_take {i : Nat} {oi : Oper} {v : Value} {fuel : Nat} {listed : Array Bool} {a : Act} {w : World} (him : (i == m) = false) (hi' : ops.toList[i]? = some oi)
    (hs : Region.noSelect ops = true) (hf : Region.free md ops listed i = true) (hr : (Region.ready md ops listed).contains i = true)
    (hQ : ∀ c a w, Q (.panic c) (a.put oi.dst v) w → Q (.panic c) a w) (hy : YieldsIf P ops B oi v a) (hS : HL m A B listed w)
    (h : HL m A B (listed.setIfInBounds i true) w → wpAnyL P md ops Q m A B fuel (listed.setIfInBounds i true) (a.put oi.dst v) w) : wpAnyL P md ops Q m A B (fuel + 1) listed a w :=
  wpAnyL_first (by simpa using him) (fun _ => True) (fun _ _ _ h => h.2) (fun _ _ _ _ _ _ => trivial) (Array.getElem?_toList.symm.trans hi') (Region.noSelect_spec hs) hQ fuel listed a w (Region.free_spec (Array.getElem?_toList.symm.trans hi') hf) (by simpa using hr) trivial hy hS (h (hS.set (by simpa using him)))
def waitsB (md : Region.Mode) (ops : Array Oper) (m i : Nat) : Bool := match ops[m]? with
  | some o => o.after.any fun e => Region.binds md e && e.on == i
  | none => true
theorem waits_ready {i : Nat} {l : Array Bool} (hd : waitsB md ops m i = true) (hi : l.getD i true = false) : m ∉ Region.ready md ops l := fun h => by
  obtain ⟨_, o, ho, hall⟩ := mem_ready.1 h
  unfold waitsB at hd
  rw [ho] at hd
  simp only [Array.any_eq_true'] at hd
  obtain ⟨e, he, hb⟩ := hd
  rw [Bool.and_eq_true] at hb
  have h1 := hall e he hb.1
  rw [eq_of_beq hb.2] at h1
  rcases Nat.lt_or_ge i l.size with h' | h'
  · simp [h'] at hi h1; rw [hi] at h1; cases h1
  · simp [Array.getElem?_eq_none h'] at h1
/-- Take number i first, for which number m waits: what it yields hangs on A, too. -/
theorem wpAnyL_takeA {i : Nat} {oi : Oper} {v : Value} {fuel : Nat} {listed : Array Bool} {a : Act} {w : World} (him : (i == m) = false) (hi' : ops.toList[i]? = some oi)
    (hs : Region.noSelect ops = true) (hf : Region.free md ops listed i = true) (hr : (Region.ready md ops listed).contains i = true) (hd : waitsB md ops m i = true) (hm : listed.getD m true = false)
    (hQ : ∀ c a w, Q (.panic c) (a.put oi.dst v) w → Q (.panic c) a w) (hy : YieldsIf P ops A oi v a) (hS : HL m A B listed w)
    (h : HL m A B (listed.setIfInBounds i true) w → wpAnyL P md ops Q m A B fuel (listed.setIfInBounds i true) (a.put oi.dst v) w) : wpAnyL P md ops Q m A B (fuel + 1) listed a w :=
  wpAnyL_first (by simpa using him) (fun l => l.getD m true = false) (fun l w hg h => h.1 hg) (fun l j hg hi hj hji => by
    have hne : j ≠ m := by rintro rfl; exact waits_ready hd hi hj
    rw [getD_set_ne true hne]
    exact hg) (Array.getElem?_toList.symm.trans hi') (Region.noSelect_spec hs) hQ fuel listed a w (Region.free_spec (Array.getElem?_toList.symm.trans hi') hf) (by simpa using hr) hm hy hS (h (hS.set (by simpa using him)))

def AllReadyL (P : Program) (md : Region.Mode) (ops : Array Oper) (Q : Exit → Act → World → Prop) (m : Nat) (A B : World → Prop) (fuel : Nat) (listed : Array Bool) (a : Act) (w : World) (rs : List Nat) : Prop :=
  ∀ i ∈ rs, wpOp P ops Q i (fun a' w' => HL m A B (listed.setIfInBounds i true) w' ∧ wpAnyL P md ops Q m A B fuel (listed.setIfInBounds i true) a' w') a w
theorem AllReadyL.nil {fuel : Nat} {listed : Array Bool} {a : Act} {w : World} : AllReadyL P md ops Q m A B fuel listed a w [] := fun _ h => by cases h
theorem AllReadyL.cons {fuel : Nat} {listed : Array Bool} {a : Act} {w : World} {i : Nat} {o : Oper} {rs : List Nat} (ho' : ops.toList[i]? = some o)
    (h : ∀ K' : Act → World → Prop, Shut (∀ a w, HL m A B (listed.setIfInBounds i true) w → (HL m A B (listed.setIfInBounds i true) w → wpAnyL P md ops Q m A B fuel (listed.setIfInBounds i true) a w) → K' a w) → if Region.wanted o (yielded ops a.tmps) = true then Oper.wp P o a w K' Q else K' (a.put o.dst undef) w)
    (hs : AllReadyL P md ops Q m A B fuel listed a w rs) : AllReadyL P md ops Q m A B fuel listed a w (i :: rs) := fun j hj => by
  rcases List.mem_cons.1 hj with rfl | hj
  · exact wpOp_step (Array.getElem?_toList.symm.trans ho') (fun K' hK => h K' (fun a w hS hW => hK a w ⟨hS, hW hS⟩))
  · exact hs j hj
theorem wpAnyL_ready {rs : List Nat} {fuel : Nat} {listed : Array Bool} {a : Act} {w : World} (hr : Region.ready md ops listed = rs) (hne : rs ≠ [])
    (h : AllReadyL P md ops Q m A B fuel listed a w rs) : wpAnyL P md ops Q m A B (fuel + 1) listed a w := ⟨fun h0 => absurd (hr ▸ h0) hne, hr ▸ h⟩
theorem wpAnyL_done {listed : Array Bool} {a : Act} {w : World} (hr : Region.ready md ops listed = []) (h : Q .normal a w) :
    ∀ fuel, wpAnyL P md ops Q m A B fuel listed a w
  | 0 => ⟨hr, h⟩
  | _ + 1 => ⟨fun _ => h, by rw [hr]; simp⟩
theorem region_L (m : Nat) (A B : World → Prop) {id : Nat} {a : Act} {w : World} (hm : P.follows .mixedOrders = true) (hS : HL m A B (Array.replicate ops.size false) w.drew)
    (h : HL m A B (Array.replicate ops.size false) w.drew → wpAnyL P .any ops Q m A B ops.size (Array.replicate ops.size false) a w.drew) : (Code.region id ops true).wp P Q a w :=
  wp_region_any hm (wpAny_of_L _ _ _ _ (h hS))
end
end Go.Proofs.Ytgkdajlkajmdiaa
