/- A slice of pairs that came in. -/
import Derived.Test.YtjoobpieomhklaaPair1
import Derived.Deep.SlicePairs
import Derived.OpenShut
namespace Go.Proofs.Ytjoobpieomhklaa
open Go Go.RowKit Go.Lib
set_option linter.unusedVariables false

/-- At p (if there are any) lie the pairs l; the cells are below w's heap. -/
def PairsIn (w : World) (p : Option Addr) (l : List Pr) : Prop := l = [] ∨ ∃ b o, p = some ⟨b, o, none⟩ ∧ PairsAt w b o l
theorem PairsIn.later {w w1 : World} {p : Option Addr} {l : List Pr} (h : PairsIn w p l) (hb : Below w.heap.size w w1) : PairsIn w1 p l := by
  rcases h with h | ⟨b, o, h1, h2⟩
  · exact .inl h
  · exact .inr ⟨b, o, h1, h2.later hb⟩
theorem szPairS_in (p : Option Addr) (n cap : Nat) (l : List Pr) (w : World) (hn : n = l.length) (hl : PairsIn w p l) (hs : ∀ p ∈ l, SmallPr p) (hc : n ≤ maxLen) :
    Calls Try.prog 7 #[.slice p n cap, .int .i64 1048576] w (SzP n w) := by
  rcases hl with rfl | ⟨b, o, rfl, h2⟩
  · subst hn
    exact szPairS_nil p cap 1048576 w (by omega) (by omega)
  · exact szPairS_some b o n cap l 1048576 w hn h2 hs hc (by omega) (by omega)
theorem toPairS_in (p : Option Addr) (n cap : Nat) (l : List Pr) (w : World) (hn : n = l.length) (hl : PairsIn w p l) (hc : n ≤ 1048576) :
    Calls Try.prog 9 #[.slice p n cap] w (PairsOut n l w) := by
  rcases hl with rfl | ⟨b, o, rfl, h2⟩
  · subst hn
    exact toPairS_nil p cap w
  · exact toPairS_some b o n cap l w hn h2 hc
/-- What the form of claims gives of a slice of pairs. -/
def PairsArg (w : World) (p : Option Addr) (n cap : Nat) (l : List Pr) : Prop := n = l.length ∧ PairsIn w p l ∧ (∀ q ∈ l, SmallPr q) ∧ n ≤ maxLen
def strOf : Value → ByteArray
  | .string s => s
  | _ => ByteArray.empty
theorem strOf_of {H : Type} {enc : TypeId × Value → H} {W : World} {sp : Nat → Bool} {n : Nat} {v : Value} {x : DataW H × List MemPlace} (h : DataW.trod enc Try.prog W 0 sp true n 9 [v] = some x) : v = .string (strOf v) ∧ (strOf v).size ≤ maxLen := by
  obtain ⟨s, h1, _, h2⟩ := DataW.trod_string Try.underlying9 h
  obtain rfl : v = .string s := by simpa using h1
  exact ⟨rfl, h2⟩
theorem pairsArg_of {H : Type} {enc : TypeId × Value → H} {W : World} {a : Option Addr} {len cap : Nat} {d : DataW H} {ps : List MemPlace} (h : DataW.Trod enc Try.prog W 0 (fun _ => true) true 22 (.slice a len cap) d ps) : ∃ l, PairsArg W a len cap l := by
  obtain ⟨fuel, hf⟩ := h
  rcases Go.Deep.open_slice_pairs Try.underlying22 Try.underlying36 (by kernel_rfl) rfl rfl (by kernel_rfl) (by kernel_rfl) hf with ⟨hcs, _⟩ | ⟨x, l, c, m, n, V0, V1, D0, D1, P0, P1, hcs, _, hl, hm, hmm, _, hi⟩
  · simp [Value.cells] at hcs
    obtain ⟨rfl, rfl, rfl⟩ := hcs
    exact ⟨[], rfl, .inl rfl, by simp, by simp [maxLen]⟩
  · simp [Value.cells] at hcs
    obtain ⟨rfl, rfl, rfl⟩ := hcs
    have hle : len ≤ m := by rw [hmm]; simpa using hl
    refine ⟨(List.range len).map fun i => (strOf (V0 i), strOf (V1 i)), by simp, ?_, ?_, Nat.le_trans hl hm⟩
    · by_cases h0 : len = 0
      · subst h0
        exact .inl rfl
      · right
        have hsp : x.spot = none := by
          have h1 := (hi 0 (by omega)).1
          rw [Nat.zero_mul] at h1
          unfold World.cell? at h1
          split at h1
          · split at h1
            · cases h1
            · rename_i hs
              simpa [Addr.add] using hs
          · cases h1
        obtain ⟨b, o, sp⟩ := x
        obtain rfl : sp = none := hsp
        refine ⟨b, o, rfl, rangeAt_of_elems pairCf_len _ _ fun i p hp => ?_⟩
        have hil : i < len := by have := (List.getElem?_eq_some_iff.1 hp).1; simpa using this
        obtain ⟨h1, h2, h3, h4⟩ := hi i (by omega)
        obtain ⟨e1, _⟩ := strOf_of h3
        obtain ⟨e2, _⟩ := strOf_of h4
        rw [Addr.add_mid] at h1 h2
        rw [e1] at h1
        rw [e2] at h2
        have hp' : (strOf (V0 i), strOf (V1 i)) = p := by simpa [hil] using hp
        subst hp'
        intro j v hv
        match j, hv with
        | 0, hv => simp [pairCf] at hv; subst hv; exact h1
        | 1, hv => simp [pairCf] at hv; subst hv; exact h2
        | j + 2, hv => simp [pairCf] at hv
    · intro q hq
      obtain ⟨i, hi1, rfl⟩ := List.mem_map.1 hq
      obtain ⟨h1, h2, h3, h4⟩ := hi i (by have := List.mem_range.1 hi1; omega)
      exact ⟨(strOf_of h3).2, (strOf_of h4).2⟩
end Go.Proofs.Ytjoobpieomhklaa
