/- impl.join: the two texts, one behind the other. -/
import Derived.Test.YtgkdajlkajmdiaaInfo
import Derived.Outline
namespace Go.Proofs.Ytgkdajlkajmdiaa
open Go Go.RowKit Go.Lib

theorem join_any (s t : ByteArray) (w : World) (hs : s.size + t.size ≤ 140737488355328) :
    Calls Try.prog 109 #[.string s, .string t] w fun e w' => e = .returned (.string (s ++ t)) ∧ Below w.heap.size w w' := by
  obtain ⟨i5, hi, hz0, hz1, hz2⟩ := info_parts info5
  have hlen : ∀ z : Value, (List.replicate (s.size + t.size) z).length = s.size + t.size := fun z => List.length_replicate
  have hlen2 := length_splice (List.replicate (s.size + t.size) (Value.int .u8 0)) 0 (byteCells s.data.toList) (by rw [hlen, byteCells_length, ← size_eq]; omega)
  rw [hlen] at hlen2
  have HL := Lib.hid hlen
  have HL2 := Lib.hid hlen2
  clear hlen hlen2
  have hsz : ∀ w, (Go.sizeOf 5).run Try.prog w = .ok 1 w := fun w => by kernel_rfl
  have HZ := Lib.hid hsz
  clear hsz
  go_enter Try.func109, Try.ntmps109
  go_wp2_with (refine wpList_make_bytes rfl (.tmp 11) (.tmp 11) 205 rfl 5 i5 (.int .u8 0) Try.underlying205 hi hz0 hz1 hz2 rfl .i64 .i64 _ _ (s.size + t.size) rfl rfl ?h1 ?h2 hs w.heap.size w (Below.refl _ _) (Nat.le_refl _) ?_)
  case h1 => go_num
  case h2 => go_num
  intro w1 g hg hr hb hl
  have HR := Lib.hid hr
  clear hr
  go_wp2_with (refine wpList_copy_str rfl (.tmp 13) (.tmp 14) 205 9 rfl 5 Try.underlying205 info5s _ _ _ s rfl rfl g 0 _ HR.out ?c1 (fun _ => rfl) ?c3 w.heap.size w hb hg ?_)
  case c1 => omega
  case c3 => rw [HL.out]; omega
  intro w2 hr2 hb2 hl2
  have HR2 := Lib.hid hr2
  clear hr2
  go_wp2_with (refine wpList_slice_tail rfl (.tmp 16) (.tmp 17) 205 5 rfl Try.underlying205 HZ.out g s.size t.size _ _ _ rfl rfl rfl rfl rfl ?_)
  intro dp hdp
  have HD := Lib.hid hdp
  clear hdp
  go_wp2_with (refine wpList_copy_str rfl (.tmp 18) (.tmp 19) 205 9 rfl 5 Try.underlying205 info5s _ _ _ t rfl rfl g s.size _ HR2.out ?d1 HD.out ?d3 w.heap.size w hb2 hg ?_)
  case d1 => omega
  case d3 => rw [HL2.out]; exact Nat.le_refl _
  intro w3 hr3 hb3 hl3
  rw [splice_two] at hr3
  have HR3 := Lib.hid hr3
  clear hr3
  go_wp2_with (refine wpList_bytes_str rfl (.tmp 21) 205 9 5 rfl Try.underlying205 Try.underlying5 Try.underlying9 g _ _ (s ++ t) rfl [] HR3.out ?e1 ?_)
  case e1 => simp
  go_wp2_with fail
  go_ret
  exact ⟨rfl, hb3⟩
end Go.Proofs.Ytgkdajlkajmdiaa
