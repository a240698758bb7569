/- Plain mathematics of a seal whose byte was changed. -/
import Derived.Test.YtghcolobjfgfgaaDoorUns2
import Derived.Test.YtghcolobjfgfgaaDoorRound2
namespace Go.Proofs.YtghcolobjfgfgaaDoor
open Go Go.RowKit

namespace Ma
theorem xor_inj {a b c : Nat} (h : a ^^^ c = b ^^^ c) : a = b := by
  have : (a ^^^ c) ^^^ c = (b ^^^ c) ^^^ c := by rw [h]
  simpa [Nat.xor_assoc, Nat.xor_self, Nat.xor_zero] using this
theorem bit31 {a b : Nat} (ha : a < 4294967296) (hb : b < 4294967296) (h : (a / 2) ^^^ 3988292384 = b / 2) : False := by
  have h1 : (a / 2).testBit 31 = false := Nat.testBit_lt_two_pow (by omega)
  have h2 : (b / 2).testBit 31 = false := Nat.testBit_lt_two_pow (by omega)
  rw [← h, Nat.testBit_xor, h1] at h2
  exact absurd h2 (by decide)
theorem bit1_inj {a b : Nat} (ha : a < 4294967296) (hb : b < 4294967296) (h : bit1 a = bit1 b) : a = b := by
  unfold bit1 at h
  split at h <;> split at h
  · have := xor_inj h; omega
  · exact (bit31 ha hb h).elim
  · exact (bit31 hb ha h.symm).elim
  · omega
theorem bits8_inj (k : Nat) : ∀ {a b : Nat}, a < 4294967296 → b < 4294967296 → bits8 k a = bits8 k b → a = b := by
  induction k with
  | zero => exact fun _ _ h => h
  | succ k ih => exact fun ha hb h => bit1_inj ha hb (ih (bit1_lt ha) (bit1_lt hb) h)
theorem step_inj {a b x y : Nat} (ha : a < 4294967296) (hb : b < 4294967296) (hx : x < 256) (hy : y < 256) (h : step a x = step b y) : a ^^^ x = b ^^^ y :=
  bits8_inj 8 (Nat.xor_lt_two_pow (n := 32) (by omega) (by omega)) (Nat.xor_lt_two_pow (n := 32) (by omega) (by omega)) h
theorem fold_inj (l : List UInt8) : ∀ {a b : Nat}, a < 4294967296 → b < 4294967296 → fold a l = fold b l → a = b := by
  induction l with
  | nil => exact fun _ _ h => h
  | cons x l ih =>
    intro a b ha hb h
    have hx := UInt8.toNat_lt x
    exact xor_inj (step_inj ha hb hx hx (ih (step_lt ha hx) (step_lt hb hx) h))
theorem fold_set (l : List UInt8) : ∀ (i : Nat) (x : UInt8) {r : Nat}, r < 4294967296 → (h : i < l.length) → fold r (l.set i x) = fold r l → x = l[i] := by
  induction l with
  | nil => intro i x r _ h; simp at h
  | cons y l ih =>
    intro i x r hr h e
    have hx := UInt8.toNat_lt x
    have hy := UInt8.toNat_lt y
    cases i with
    | zero =>
      have := step_inj hr hr hx hy (fold_inj l (step_lt hr hx) (step_lt hr hy) e)
      rw [Nat.xor_comm r, Nat.xor_comm r] at this
      exact UInt8.toNat_inj.1 (xor_inj this)
    | succ i => exact ih i x (step_lt hr hy) (by simpa using h) e
end Ma

theorem more_lt (c : Nat) (s : ByteArray) : more c s < 4294967296 := by unfold more; omega
theorem more_app (t u : ByteArray) : more (more 0 t) u = more 0 (t ++ u) := by
  have h := Ma.fold_lt t.data.toList (r := 4294967295) (by omega)
  unfold more
  rw [app_list, Ma.fold_append]
  have : 4294967295 - (4294967295 - Ma.fold (4294967295 - 0) t.data.toList) = Ma.fold (4294967295 - 0) t.data.toList := by
    show 4294967295 - (4294967295 - Ma.fold 4294967295 t.data.toList) = Ma.fold 4294967295 t.data.toList
    omega
  rw [this]
theorem four_list (c : Nat) : (four c).toList = fourL c := by rw [Lib.toList_data]; rfl
theorem fourL_inj {c d : Nat} (hc : c < 4294967296) (hd : d < 4294967296) (h : fourL c = fourL d) : c = d := by
  unfold fourL at h
  simp only [List.cons.injEq, and_true] at h
  obtain ⟨h0, h1, h2, h3⟩ := h
  have g : ∀ x y : Nat, x < 256 → y < 256 → UInt8.ofNat x = UInt8.ofNat y → x = y := by
    intro x y hx hy e
    have := congrArg UInt8.toNat e
    simp at this
    omega
  have g0 := g _ _ (by omega) (by omega) h0
  have g1 := g _ _ (by omega) (by omega) h1
  have g2 := g _ _ (by omega) (by omega) h2
  have g3 := g _ _ (by omega) (by omega) h3
  omega

/-- A text whose byte i is x. -/
def putAt (s : ByteArray) (i : Nat) (x : UInt8) : ByteArray := ⟨(s.data.toList.set i x).toArray⟩
theorem putAt_list (s : ByteArray) (i : Nat) (x : UInt8) : (putAt s i x).data.toList = s.data.toList.set i x := by unfold putAt; simp
theorem putAt_size (s : ByteArray) (i : Nat) (x : UInt8) : (putAt s i x).size = s.size := by rw [← list_len, putAt_list, List.length_set, list_len]

theorem seal_size (t : ByteArray) : (sealText t).size = t.size + 4 := by unfold sealText; rw [app_size, four_size]
theorem seal_list (t : ByteArray) : (sealText t).data.toList = t.data.toList ++ fourL (more 0 t) := by unfold sealText; rw [app_list]; rfl
theorem body_list (s : ByteArray) : (body s).data.toList = s.data.toList.take (s.size - 4) := by unfold body; rw [ext_list]; simp
theorem tail_list (s : ByteArray) : (tail4 s).toList = s.data.toList.drop (s.size - 4) := by
  unfold tail4
  rw [Lib.toList_data, ext_list, List.take_of_length_le]
  rw [List.length_drop, list_len]
  exact Nat.le_refl _
theorem body_seal (t : ByteArray) : body (sealText t) = t := by
  apply ByteArray.ext
  apply Array.toList_inj.1
  rw [body_list, seal_size, seal_list, show t.size + 4 - 4 = t.data.toList.length by rw [list_len]; omega, List.take_left]
theorem un_seal (t : ByteArray) (h : t.size ≤ 7996) : unR (sealText t) = (t, 0, 0) := by
  have hs := seal_size t
  unfold unR
  rw [if_neg (by omega), if_neg (by omega), if_pos, body_seal]
  unfold fits
  rw [body_seal, tail_list, seal_size, seal_list, four_list, show t.size + 4 - 4 = t.data.toList.length by rw [list_len]; omega, List.drop_left]
  exact beq_self_eq_true _
theorem un_put (t : ByteArray) (i : Nat) (x : UInt8) (h : t.size ≤ 7996) (hi : i < (sealText t).data.toList.length) (hx : x ≠ (sealText t).data.toList[i]) : unR (putAt (sealText t) i x) = (⟨#[]⟩, 0, 5) := by
  have hs := seal_size t
  have hp := putAt_size (sealText t) i x
  unfold unR
  rw [if_neg (by omega), if_neg (by omega), if_neg]
  unfold fits
  intro hf
  have hf := eq_of_beq hf
  rw [four_list, tail_list, putAt_list, hp, hs, seal_list] at hf
  have hn : t.size + 4 - 4 = t.data.toList.length := by rw [list_len]; omega
  have hb : (body (putAt (sealText t) i x)).data.toList = ((t.data.toList ++ fourL (more 0 t)).set i x).take t.data.toList.length := by
    rw [body_list, putAt_list, hp, hs, seal_list, hn]
  rw [hn] at hf
  by_cases hit : i < t.data.toList.length
  · rw [List.set_append_left _ _ hit, List.drop_left' (by simp)] at hf
    rw [List.set_append_left _ _ hit, List.take_left' (by simp)] at hb
    have e := fourL_inj (more_lt _ _) (more_lt _ _) hf
    unfold more at e
    rw [hb] at e
    have l1 := Ma.fold_lt (t.data.toList.set i x) (r := 4294967295) (by omega)
    have l2 := Ma.fold_lt t.data.toList (r := 4294967295) (by omega)
    have := Ma.fold_set t.data.toList i x (r := 4294967295) (by omega) hit (by
      have e' : 4294967295 - Ma.fold 4294967295 (t.data.toList.set i x) = 4294967295 - Ma.fold 4294967295 t.data.toList := e
      omega)
    refine hx (this.trans ?_)
    simp only [seal_list]
    rw [List.getElem_append_left hit]
  · have hge : t.data.toList.length ≤ i := by omega
    rw [List.set_append_right _ _ hge, List.drop_left' rfl] at hf
    rw [List.set_append_right _ _ hge, List.take_left' rfl] at hb
    have hm : more 0 (body (putAt (sealText t) i x)) = more 0 t := by unfold more; rw [hb]
    rw [hm] at hf
    have hlen : i - t.data.toList.length < (fourL (more 0 t)).length := by rw [seal_list, List.length_append] at hi; omega
    have hq : ((fourL (more 0 t)).set (i - t.data.toList.length) x)[i - t.data.toList.length]? = some x := List.getElem?_set_self hlen
    rw [← hf] at hq
    refine hx (Eq.symm ?_)
    simp only [seal_list]
    rw [List.getElem_append_right hge]
    exact (List.getElem?_eq_some_iff.1 hq).2
end Go.Proofs.YtghcolobjfgfgaaDoor
