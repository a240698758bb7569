/- FormText: the walks. -/
import Derived.Test.YtjoobpieomhklaaDoorCode2
namespace Go.Proofs.YtjoobpieomhklaaDoor
open Go Go.RowKit Go.Lib
set_option linter.unusedVariables false

def pairL (p : Pr) : List UInt8 := (p.1.data.toList ++ [61]) ++ codeL p.2.data.toList
def sepL (k : Nat) : List UInt8 := if k = 0 then [] else [38]
def pairAtL (l : List Pr) (k : Nat) : List UInt8 := match l[k]? with
  | some p => pairL p
  | none => []
def textTo (l : List Pr) : Nat → List UInt8
  | 0 => []
  | k + 1 => (textTo l k ++ sepL k) ++ pairAtL l k
def formT (l : List Pr) : ByteArray := ⟨(textTo l l.length).toArray⟩
theorem sepL_len (k : Nat) : (sepL k).length ≤ 1 := by unfold sepL; split <;> simp
theorem pairAtL_some {l : List Pr} {k : Nat} {p : Pr} (hp : l[k]? = some p) : pairAtL l k = pairL p := by unfold pairAtL; rw [hp]
theorem pairL_len {p : Pr} (h1 : PName p.1) (h2 : p.2.size ≤ 40) : (pairL p).length ≤ 133 := by
  have h3 := codeL_len p.2.data.toList
  have h4 := h1.2.1
  rw [size_eq] at h4 h2
  unfold pairL
  rw [List.length_append, List.length_append, List.length_singleton]
  omega
theorem textTo_len {l : List Pr} (hf : FormP l) : ∀ k, (textTo l k).length ≤ 134 * k
  | 0 => by simp [textTo]
  | k + 1 => by
    have h1 := textTo_len hf k
    have h2 := sepL_len k
    have h3 : (pairAtL l k).length ≤ 133 := by
      cases hp : l[k]? with
      | none => simp [pairAtL, hp]
      | some p => rw [pairAtL_some hp]; exact pairL_len (hf.2.2 k p hp).1 (hf.2.2 k p hp).2.1
    rw [textTo, List.length_append, List.length_append]
    omega

def TextRel (l : List Pr) (n : Nat) (w : World) (b i : Value) (wr : World) : Prop := ∃ k : Nat, k ≤ n ∧ i = .int .i64 k ∧ Buf 5 w wr b (textTo l k)
theorem str_list (a b : ByteArray) : (a ++ b).data.toList = a.data.toList ++ b.data.toList := by simp

set_option maxRecDepth 100000 in
theorem text_spec (b o n cap : Nat) (l : List Pr) (w : World) (hn : n = l.length) (hl : PairsAt w b o l) (hs : ∀ p ∈ l, SmallPr p) (hc : n ≤ 1048576) (hf : FormP l) :
    Calls Tryd.prog 12 #[.slice (some ⟨b, o, none⟩) n cap] w fun e w' => e = .returned (.string (formT l)) ∧ Below w.heap.size w w' := by
  obtain ⟨i5, hi, hz0, hz1, hz2⟩ := info_parts info5
  have HL := Lib.hid hl
  have HN := Lib.hid hn
  have HS := Lib.hid hs
  have HF := Lib.hid hf
  have h8 : n ≤ 8 := by have := hf.2.1; omega
  clear hl hn hs hf
  go_enter Tryd.func12, Tryd.ntmps12
  go_wp2_with (go_at_call 19; refine (form_spec b o n cap l _ HN.out HL.out HS.out hc).mono ?_; rintro e w1 ⟨c, hcc, rfl, rfl⟩; obtain rfl : c = true := hcc.2 HF.out; clear hcc)
  go_loopw [3, 4] (TextRel l n w) (fun _ i _ => n - (RowKit.intOf i).toNat)
  case atStart => exact ⟨0, by omega, rfl, Buf.lit _ (Below.refl _ _)⟩
  case round =>
    obtain ⟨k, hk, rfl, hbf⟩ := hrel
    by_cases hlt : k < n
    · obtain ⟨p, hp⟩ : ∃ p, l[k]? = some p := ⟨_, List.getElem?_eq_getElem (by rw [← HN.out]; exact hlt)⟩
      obtain ⟨a0, a1⟩ := HL.out.cells hp
      have s40 := (HF.out.2.2 k p hp).2.1
      have hbl : b < w.heap.size := World.block_lt_of_cell? w _ a0
      have n12 := (HF.out.2.2 k p hp).1.2.1
      have hcl := codeL_len p.2.data.toList
      rw [← size_eq] at hcl
      have f1 : ¬ 9223372036854775807 < p.1.size + 1 := by omega
      have f2 : ¬ 9223372036854775807 < p.1.size + 1 + (codeL p.2.data.toList).length := by omega
      have ht := textTo_len HF.out k
      have hst : ((p.1 ++ (⟨#[61]⟩ : ByteArray)) ++ (⟨(codeL p.2.data.toList).toArray⟩ : ByteArray)).size = (pairL p).length := by rw [size_eq, str_list, str_list]; rfl
      have hlen : (textTo l k ++ sepL k).length + ((p.1 ++ (⟨#[61]⟩ : ByteArray)) ++ (⟨(codeL p.2.data.toList).toArray⟩ : ByteArray)).size ≤ 140737488355328 := by have := sepL_len k; rw [List.length_append, hst, pairL, List.length_append, List.length_append, ← size_eq, List.length_singleton]; omega
      clear hst
      have hpl := pairL_len (HF.out.2.2 k p hp).1 s40
      have HT := Lib.hid (show textTo l (k + 1) = (textTo l k ++ sepL k) ++ pairL p by rw [textTo, pairAtL_some hp])
      have A0 := Lib.hid a0
      have A1 := Lib.hid a1
      have HB := Lib.hid hbf
      clear a0 a1 hp hbf
      have HX : Hid (p.1.data.toList ++ (⟨#[61]⟩ : ByteArray).data.toList ++ (⟨(codeL p.2.data.toList).toArray⟩ : ByteArray).data.toList = pairL p) := Lib.hid rfl
      by_cases hk0 : k = 0
      · subst hk0
        have HB1 : Hid (Buf 5 w wr u3 (textTo l 0 ++ sepL 0)) := HB
        have c0 := (HB.out.below.cell (p := ⟨b, o, none⟩) hbl).trans A0.out
        have c1 := (HB.out.below.cell (p := ⟨b, o + 1, none⟩) hbl).trans A1.out
        have hz := HB.out.below.size
        go_wp2_with fail
        go_region_held3 (fun w' => w'.cell? ⟨b, o, none⟩ = some (.string p.1) ∧ w'.cell? ⟨b, o + 1, none⟩ = some (.string p.2))
          (first
            | go_keep
            | (exact ⟨(hb3.below.cell (p := ⟨b, o, none⟩) hbl).trans A0.out, (hb3.below.cell (p := ⟨b, o + 1, none⟩) hbl).trans A1.out⟩)
            | (exact ⟨q0, q1⟩))
          (first
            | (go_at_call 20; refine (code_spec p.2 _ (by omega)).mono ?_; rintro e w2 ⟨rfl, hb2⟩; have q0 := (hb2.cell (p := ⟨b, o, none⟩) (by simp; omega)).trans c0; have q1 := (hb2.cell (p := ⟨b, o + 1, none⟩) (by simp; omega)).trans c1)
            | ((refine step_text rfl (.tmp 20) (.tmp 33) 45 9 5 rfl i5 Tryd.underlying45 Tryd.underlying9 hi hz0 hz1 hz2 w _ _ _ rfl (HB1.out.drew.later hb2) rfl hlen ?_; intro v2 w3 hb3)))
        rw [str_list, str_list, HX.out, ← HT.out] at hb3
        have HB3 := Lib.hid hb3
        clear hb3
        go_wp2_with fail
        go_roundw
        case rel => exact ⟨1, by omega, rfl, HB3.out⟩
        case measure => simp [RowKit.intOf]; omega
      · have H0 := Lib.hid (show textTo l k ++ sepL k = textTo l k ++ [38] by unfold sepL; rw [if_neg hk0])
        have hkp : 0 < k := by omega
        go_wp2_with (at_builtin; refine wpList_push_const rfl (.tmp 17) (.tmp 18) 45 5 rfl i5 Tryd.underlying45 hi hz0 hz1 hz2 w _ _ _ 38 38 rfl rfl HB.out rfl ?p1 ?p2)
        case p1 => omega
        intro v' w1 hb1
        rw [← H0.out] at hb1
        have HB1 := Lib.hid hb1
        have c0 := (hb1.below.cell (p := ⟨b, o + k * 2, none⟩) hbl).trans A0.out
        have c1 := (hb1.below.cell (p := ⟨b, o + k * 2 + 1, none⟩) hbl).trans A1.out
        have hz := hb1.below.size
        clear hb1
        go_wp2_with fail
        go_region_held3 (fun w' => w'.cell? ⟨b, o + k * 2, none⟩ = some (.string p.1) ∧ w'.cell? ⟨b, o + k * 2 + 1, none⟩ = some (.string p.2))
          (first
            | go_keep
            | (exact ⟨(hb3.below.cell (p := ⟨b, o + k * 2, none⟩) hbl).trans A0.out, (hb3.below.cell (p := ⟨b, o + k * 2 + 1, none⟩) hbl).trans A1.out⟩)
            | (exact ⟨q0, q1⟩))
          (first
            | (go_at_call 20; refine (code_spec p.2 _ (by omega)).mono ?_; rintro e w2 ⟨rfl, hb2⟩; have q0 := (hb2.cell (p := ⟨b, o + k * 2, none⟩) (by simp; omega)).trans c0; have q1 := (hb2.cell (p := ⟨b, o + k * 2 + 1, none⟩) (by simp; omega)).trans c1)
            | ((refine step_text rfl (.tmp 20) (.tmp 33) 45 9 5 rfl i5 Tryd.underlying45 Tryd.underlying9 hi hz0 hz1 hz2 w _ _ _ rfl (HB1.out.drew.later hb2) rfl hlen ?_; intro v2 w3 hb3)))
        rw [str_list, str_list, HX.out, ← HT.out] at hb3
        have HB3 := Lib.hid hb3
        clear hb3
        go_wp2_with fail
        go_roundw
        case rel => exact ⟨k + 1, by omega, by go_num, HB3.out⟩
        case measure => simp [RowKit.intOf]; omega
    · obtain rfl : k = n := by omega
      have HB := Lib.hid hbf
      have HE : Hid ((⟨(textTo l k).toArray⟩ : ByteArray) = formT l) := Lib.hid (by unfold formT; rw [HN.out])
      clear hbf
      go_wp2_with (refine wpList_buf_str rfl (.tmp 35) 45 9 5 rfl Tryd.underlying45 Tryd.underlying5 Tryd.underlying9 w _ _ rfl HB.out ?_)
      go_wp2_with fail
      go_ret
      exact ⟨ret_str HE.out, HB.out.below⟩
end Go.Proofs.YtjoobpieomhklaaDoor
