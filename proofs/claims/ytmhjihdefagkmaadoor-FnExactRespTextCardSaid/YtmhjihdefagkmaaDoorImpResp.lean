/- RespText: the program's side, and the law. -/
import Derived.Test.YtmhjihdefagkmaaDoorFmt
import Derived.Test.YtmhjihdefagkmaaDoorKlass
import Derived.Deep.DeepCutAuto
namespace Go.Proofs.YtmhjihdefagkmaaDoor
open Go Go.RowKit Go.Lib
set_option linter.unusedVariables false

/-- What is answered, as data. -/
structure RS where
  code : Int
  token : Int
  next : Int
  yes : Bool
def rsV (r : RS) : Value := .agg #[.int .i64 r.code, .int .i64 r.token, .int .i64 r.next, .bool r.yes]
def RS64 (r : RS) : Prop := I64 r.code ∧ I64 r.token ∧ I64 r.next
/-- Its cells, in a box of the call's own; the table. -/
def RS4 (g : Nat) (r : RS) (w0 w : World) : Prop :=
  w.cell? ⟨g, 0, none⟩ = some (.int .i64 r.code) ∧ w.cell? ⟨g, 1, none⟩ = some (.int .i64 r.token) ∧ w.cell? ⟨g, 2, none⟩ = some (.int .i64 r.next) ∧ w.cell? ⟨g, 3, none⟩ = some (.bool r.yes) ∧ Tab w ∧ Below g w0 w
theorem RS4.keep {g : Nat} {r : RS} {w0 w w' : World} (h : RS4 g r w0 w) (hb : Below w.heap.size w w') : RS4 g r w0 w' := by
  obtain ⟨h0, h1, h2, h3, ht, h⟩ := h
  have hl : g < w.heap.size := World.block_lt_of_cell? w _ h0
  exact ⟨(hb.cell (p := ⟨g, 0, none⟩) hl).trans h0, (hb.cell (p := ⟨g, 1, none⟩) hl).trans h1, (hb.cell (p := ⟨g, 2, none⟩) hl).trans h2, (hb.cell (p := ⟨g, 3, none⟩) hl).trans h3, ht.keep hb, h.trans (hb.mono (Nat.le_of_lt hl))⟩
theorem RS4.drew {g : Nat} {r : RS} {w0 w : World} (h : RS4 g r w0 w) : RS4 g r w0 w.drew := h.keep ((Below.refl _ _).drew)
theorem RS4.start (r : RS) (w : World) (t : TypeId) (ht : Tab w) : RS4 w.heap.size r w (w.alloc (.cells #[.int .i64 r.code, .int .i64 r.token, .int .i64 r.next, .bool r.yes] t)) := by
  refine ⟨?_, ?_, ?_, ?_, ht.keep ((Below.refl _ _).alloc (Nat.le_refl _) _), (Below.refl _ _).alloc (Nat.le_refl _) _⟩ <;> simp
theorem join_assoc (a b c d e : ByteArray) : a ++ (b ++ c ++ d ++ e) = a ++ b ++ c ++ d ++ e := by simp [ByteArray.append_assoc]

set_option maxRecDepth 100000 in
set_option maxHeartbeats 1000000 in
theorem resp_impl (r : RS) (w : World) (h : RS64 r) (htab : Tab w) : Calls Tryd.prog 6 #[rsV r] w (Ret (.string (respB r.code r.token r.next r.yes)) w) := by
  obtain ⟨code, token, next, yes⟩ := r
  obtain ⟨hc, ht, hn⟩ := h
  simp only at hc ht hn ⊢
  have lc := decL_len19 hc
  have lt := decL_len19 ht
  have ln := decL_len19 hn
  have HC := Lib.hid hc
  have HT := Lib.hid ht
  have HN := Lib.hid hn
  have HS := Lib.hid (RS4.start ⟨code, token, next, yes⟩ w 25 htab)
  clear hc ht hn htab
  unfold rsV
  simp only
  by_cases h0 : code = 0
  · subst h0
    by_cases h1 : token = 0
    · subst h1
      go_enter Tryd.func6, Tryd.ntmps6
      cases yes
      · go_wp2_with fail
        go_ret
        exact ⟨rfl, HS.out.2.2.2.2.2⟩
      · go_wp2_with fail
        go_ret
        exact ⟨rfl, HS.out.2.2.2.2.2⟩
    · have d1 : (token != 0) = true := by rw [bne_iff_ne]; exact h1
      go_enter Tryd.func6, Tryd.ntmps6
      go_wp2_with fail
      have s2 := HS.out.drew
      go_upto_region 5 with fail
      have p1 : ¬ 9223372036854775807 < 1 + (decB token).size := by omega
      have p2 : ¬ 9223372036854775807 < 1 + (decB token).size + 1 := by omega
      have p3 : ¬ 9223372036854775807 < 1 + (decB token).size + 1 + (decB next).size := by omega
      have p4 : ¬ 9223372036854775807 < 2 + (1 + (decB token).size + 1 + (decB next).size) := by omega
      refine q_region (RS4 w.heap.size ⟨0, token, next, yes⟩ w) (by kernel_rfl) (by kernel_rfl) s2 ?_
      refine q_val (.string ⟨#[111, 107]⟩) (by rfl) (fun wx hx => by obtain ⟨c0, c1, c2, c3, tt, bb⟩ := hx; go_simp) ?_
      simp only [Act.put, List.setIfInBounds_toArray, List.set_cons_zero, List.set_cons_succ]
      refine q_val (.pointer (some ⟨w.heap.size, 1, none⟩)) (by rfl) (fun wx hx => by obtain ⟨c0, c1, c2, c3, tt, bb⟩ := hx; go_simp) ?_
      simp only [Act.put, List.setIfInBounds_toArray, List.set_cons_zero, List.set_cons_succ]
      refine q_val (.int .i64 token) (by rfl) (fun wx hx => by obtain ⟨c0, c1, c2, c3, tt, bb⟩ := hx; go_simp) ?_
      simp only [Act.put, List.setIfInBounds_toArray, List.set_cons_zero, List.set_cons_succ]
      refine q_call 8 #[.int .i64 token, .int .i64 10] (.string (decB token)) (by rfl) (fun wx hx => by go_simp) (fun wx hx => (fmt_spec _ _ HT.out hx.2.2.2.2.1).mono (by rintro e w' ⟨rfl, hb⟩; exact ⟨rfl, hx.keep hb⟩)) ?_
      simp only [Act.put, List.setIfInBounds_toArray, List.set_cons_zero, List.set_cons_succ]
      refine q_val (.string (⟨#[32]⟩ ++ decB token)) (by rfl) (fun wx hx => by obtain ⟨c0, c1, c2, c3, tt, bb⟩ := hx; go_simp) ?_
      simp only [Act.put, List.setIfInBounds_toArray, List.set_cons_zero, List.set_cons_succ]
      refine q_val (.string (⟨#[32]⟩ ++ decB token ++ ⟨#[32]⟩)) (by rfl) (fun wx hx => by obtain ⟨c0, c1, c2, c3, tt, bb⟩ := hx; go_simp) ?_
      simp only [Act.put, List.setIfInBounds_toArray, List.set_cons_zero, List.set_cons_succ]
      refine q_val (.pointer (some ⟨w.heap.size, 2, none⟩)) (by rfl) (fun wx hx => by obtain ⟨c0, c1, c2, c3, tt, bb⟩ := hx; go_simp) ?_
      simp only [Act.put, List.setIfInBounds_toArray, List.set_cons_zero, List.set_cons_succ]
      refine q_val (.int .i64 next) (by rfl) (fun wx hx => by obtain ⟨c0, c1, c2, c3, tt, bb⟩ := hx; go_simp) ?_
      simp only [Act.put, List.setIfInBounds_toArray, List.set_cons_zero, List.set_cons_succ]
      refine q_call 8 #[.int .i64 next, .int .i64 10] (.string (decB next)) (by rfl) (fun wx hx => by go_simp) (fun wx hx => (fmt_spec _ _ HN.out hx.2.2.2.2.1).mono (by rintro e w' ⟨rfl, hb⟩; exact ⟨rfl, hx.keep hb⟩)) ?_
      simp only [Act.put, List.setIfInBounds_toArray, List.set_cons_zero, List.set_cons_succ]
      refine q_val (.string (⟨#[32]⟩ ++ decB token ++ ⟨#[32]⟩ ++ decB next)) (by rfl) (fun wx hx => by obtain ⟨c0, c1, c2, c3, tt, bb⟩ := hx; go_simp) ?_
      simp only [Act.put, List.setIfInBounds_toArray, List.set_cons_zero, List.set_cons_succ]
      refine q_val (.string (⟨#[111, 107]⟩ ++ (⟨#[32]⟩ ++ decB token ++ ⟨#[32]⟩ ++ decB next))) (by rfl) (fun wx hx => by obtain ⟨c0, c1, c2, c3, tt, bb⟩ := hx; go_simp) ?_
      simp only [Act.put, List.setIfInBounds_toArray, List.set_cons_zero, List.set_cons_succ]
      refine q_val (.string (⟨#[111, 107]⟩ ++ (⟨#[32]⟩ ++ decB token ++ ⟨#[32]⟩ ++ decB next))) (by rfl) (fun wx hx => by obtain ⟨c0, c1, c2, c3, tt, bb⟩ := hx; go_simp) ?_
      simp only [Act.put, List.setIfInBounds_toArray, List.set_cons_zero, List.set_cons_succ]
      refine wpQuiet_nil ?_
      intro w2 s3
      rw [join_assoc]
      have HX : Hid (respB 0 token next yes = yesB (⟨#[111, 107]⟩ ++ ⟨#[32]⟩ ++ decB token ++ ⟨#[32]⟩ ++ decB next) yes) := Lib.hid (by rw [respB, if_pos rfl, if_neg h1])
      have hs : (⟨#[111, 107]⟩ ++ ⟨#[32]⟩ ++ decB token ++ ⟨#[32]⟩ ++ decB next : ByteArray).size ≤ 50 := by
        simp only [ByteArray.size_append]
        show 2 + 1 + _ + 1 + _ ≤ 50
        omega
      generalize (⟨#[111, 107]⟩ ++ ⟨#[32]⟩ ++ decB token ++ ⟨#[32]⟩ ++ decB next : ByteArray) = T at HX hs ⊢
      obtain ⟨c0, c1, c2, c3, tt, bb⟩ := s3
      have p5 : ¬ 9223372036854775807 < T.size + 4 := by omega
      cases yes
      · go_wp2_with fail
        go_ret
        exact ⟨by rw [HX.out]; rfl, bb⟩
      · go_wp2_with fail
        go_ret
        exact ⟨by rw [HX.out]; rfl, bb⟩
  · have d0 : (code != 0) = true := by rw [bne_iff_ne]; exact h0
    go_enter Tryd.func6, Tryd.ntmps6
    go_wp2_with fail
    refine (fmt_spec _ _ HC.out HS.out.2.2.2.2.1).mono ?_
    rintro e w1 ⟨rfl, hb⟩
    go_wp2_with fail
    go_ret
    exact ⟨by rw [respB, if_neg h0]; rfl, (HS.out.keep hb).2.2.2.2.2⟩
end Go.Proofs.YtmhjihdefagkmaaDoor
