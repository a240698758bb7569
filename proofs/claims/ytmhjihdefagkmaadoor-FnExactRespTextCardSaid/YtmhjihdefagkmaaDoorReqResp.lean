/- RespText: the model's side. -/
import Derived.Test.YtmhjihdefagkmaaDoorReqDec
import Derived.Deep.RegionHeld3
namespace Go.Proofs.YtmhjihdefagkmaaDoor
open Go Go.RowKit Go.Lib
set_option linter.unusedVariables false

theorem decL_len19 {n : Int} (hn : -9223372036854775808 ≤ n ∧ n ≤ 9223372036854775807) : (decB n).size ≤ 20 := by
  have h := decL_len 19 n.natAbs (by omega)
  unfold decB
  split
  · decide
  · split
    · rw [ByteArray.size_append, Lib.size_eq ⟨(decL n.natAbs).toArray⟩]
      have : (⟨#[45]⟩ : ByteArray).size = 1 := rfl
      simp
      omega
    · rw [Lib.size_eq]
      simp
      omega
def I64 (n : Int) : Prop := -9223372036854775808 ≤ n ∧ n ≤ 9223372036854775807
def yesB (t : ByteArray) (yes : Bool) : ByteArray := if yes then t ++ ⟨#[32, 121, 101, 115]⟩ else t
/-- What is answered, as a text. -/
def respB (code token next : Int) (yes : Bool) : ByteArray :=
  if code = 0 then yesB (if token = 0 then ⟨#[111, 107]⟩ else ⟨#[111, 107]⟩ ++ ⟨#[32]⟩ ++ decB token ++ ⟨#[32]⟩ ++ decB next) yes else ⟨#[101, 114, 114, 111, 114, 32]⟩ ++ decB code
theorem resp_keep {w w1 w2 : World} {g : Nat} {a b c : Value} (h0 : w1.cell? ⟨g, 1, none⟩ = some a ∧ w1.cell? ⟨g, 2, none⟩ = some b ∧ w1.cell? ⟨g, 3, none⟩ = some c ∧ Below g w w1) (hb : Below w1.heap.size w1 w2) :
    w2.cell? ⟨g, 1, none⟩ = some a ∧ w2.cell? ⟨g, 2, none⟩ = some b ∧ w2.cell? ⟨g, 3, none⟩ = some c ∧ Below g w w2 := by
  obtain ⟨h1, h2, h3, h⟩ := h0
  have hl : g < w1.heap.size := World.block_lt_of_cell? w1 _ h1
  exact ⟨(hb.cell (p := ⟨g, 1, none⟩) hl).trans h1, (hb.cell (p := ⟨g, 2, none⟩) hl).trans h2, (hb.cell (p := ⟨g, 3, none⟩) hl).trans h3, h.trans (hb.mono (Nat.le_of_lt hl))⟩

set_option maxRecDepth 100000 in
set_option maxHeartbeats 1000000 in
theorem resp_spec (code token next : Int) (yes : Bool) (w : World) (hc : I64 code) (ht : I64 token) (hn : I64 next) :
    Calls Tryd.prog 4 #[.agg #[.int .i64 code, .int .i64 token, .int .i64 next, .bool yes]] w fun e w' => e = .returned (.string (respB code token next yes)) ∧ Below w.heap.size w w' := by
  have lc := decL_len19 hc
  have lt := decL_len19 ht
  have ln := decL_len19 hn
  have HC := Lib.hid hc
  have HT := Lib.hid ht
  have HN := Lib.hid hn
  clear hc ht hn
  have HB : Hid (Below w.heap.size w (w.alloc (.cells #[.int .i64 code, .int .i64 token, .int .i64 next, .bool yes] 25))) := Lib.hid ((Below.refl _ _).alloc (Nat.le_refl _) _)
  by_cases h0 : code = 0
  · subst h0
    by_cases h1 : token = 0
    · subst h1
      go_enter Tryd.func4, Tryd.ntmps4
      cases yes
      · go_wp2_with fail
        go_ret
        exact ⟨rfl, HB.out⟩
      · go_wp2_with fail
        go_ret
        exact ⟨rfl, HB.out⟩
    · have d1 : (token != 0) = true := by rw [bne_iff_ne]; exact h1
      go_enter Tryd.func4, Tryd.ntmps4
      go_wp2_with fail
      have c1 : (w.alloc (.cells #[.int .i64 0, .int .i64 token, .int .i64 next, .bool yes] 25)).cell? ⟨w.heap.size, 1, none⟩ = some (.int .i64 token) := by simp
      have c2 : (w.alloc (.cells #[.int .i64 0, .int .i64 token, .int .i64 next, .bool yes] 25)).cell? ⟨w.heap.size, 2, none⟩ = some (.int .i64 next) := by simp
      have c3 : (w.alloc (.cells #[.int .i64 0, .int .i64 token, .int .i64 next, .bool yes] 25)).cell? ⟨w.heap.size, 3, none⟩ = some (.bool yes) := by simp
      have b0 := HB.out
      clear HB
      generalize w.alloc (.cells #[.int .i64 0, .int .i64 token, .int .i64 next, .bool yes] 25) = W at c1 c2 c3 b0 ⊢
      have p1 : ¬ 9223372036854775807 < 3 + (decB token).size := by omega
      have p2 : ¬ 9223372036854775807 < 3 + (decB token).size + 1 := by omega
      have p3 : ¬ 9223372036854775807 < 3 + (decB token).size + 1 + (decB next).size := by omega
      go_region_held3 (fun w' => w'.cell? ⟨w.heap.size, 1, none⟩ = some (.int .i64 token) ∧ w'.cell? ⟨w.heap.size, 2, none⟩ = some (.int .i64 next) ∧ w'.cell? ⟨w.heap.size, 3, none⟩ = some (.bool yes) ∧ Below w.heap.size w w')
        (first
          | (exact q)
          | (exact ⟨by simpa using c1, by simpa using c2, by simpa using c3, b0.drew⟩)
          | go_keep)
        (first
          | (go_at_call 7; refine (dec_spec _ _ (by first | exact HT.out | exact HN.out)).mono ?_; rintro e w2 ⟨rfl, hb2⟩; have q := resp_keep (g := w.heap.size) (by assumption) hb2))
      all_goals cases yes
      all_goals go_wp2_with fail
      all_goals go_ret
      all_goals exact ⟨by rw [respB, if_pos rfl, if_neg h1]; rfl, q.2.2.2⟩
  · have d0 : (code != 0) = true := by rw [bne_iff_ne]; exact h0
    go_enter Tryd.func4, Tryd.ntmps4
    go_wp2_with fail
    refine (dec_spec _ _ HC.out).mono ?_
    rintro e w1 ⟨rfl, hb⟩
    go_wp2_with fail
    go_ret
    exact ⟨by rw [respB, if_neg h0]; rfl, HB.out.trans (hb.mono HB.out.size)⟩
end Go.Proofs.YtmhjihdefagkmaaDoor
