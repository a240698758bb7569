/- The text of a form: bytes that stand as they are, and bytes that are written in digits of base 16. -/
import Derived.Test.YtjoobpieomhklaaDoorForm3
import Derived.Test.YtjoobpieomhklaaDoorBuf
import Derived.Deep.RegionLaw
namespace Go.Proofs.YtjoobpieomhklaaDoor
open Go Go.RowKit Go.Lib
set_option linter.unusedVariables false

def hexL : List UInt8 := [48, 49, 50, 51, 52, 53, 54, 55, 56, 57, 65, 66, 67, 68, 69, 70]
def hexD (n : Nat) : UInt8 := hexL.getD n 0
def plainP (c : Nat) : Prop := (97 ≤ c ∧ c ≤ 122) ∨ (65 ≤ c ∧ c ≤ 90) ∨ (48 ≤ c ∧ c ≤ 57) ∨ c = 45 ∨ c = 46 ∨ c = 95
instance (c : Nat) : Decidable (plainP c) := by unfold plainP; infer_instance
def codeB (c : UInt8) : List UInt8 := if plainP c.toNat then [c] else [37, hexD (c.toNat / 16), hexD (c.toNat % 16)]
def codeL (l : List UInt8) : List UInt8 := l.flatMap codeB
def plainB (c : UInt8) : Bool := decide (plainP c.toNat)

theorem plainP_cases (n : Nat) (h : ¬ plainP n) : n < 97 ∨ 122 < n := by unfold plainP at h; omega
/-- What the tests of a byte say. -/
def T1 (n : Nat) : Prop := 97 ≤ n ∧ n ≤ 122
def T2 (n : Nat) : Prop := 65 ≤ n ∧ n ≤ 90
def T3 (n : Nat) : Prop := 48 ≤ n ∧ n ≤ 57
theorem u8_eq (n m : Nat) (h : n = m) : ((n : Int) == (m : Int)) = true := by subst h; simp
theorem u8_ne (n m : Nat) (h : ¬ n = m) : ((n : Int) == (m : Int)) = false := by rw [beq_eq_false_iff_ne]; omega
theorem plain_spec (c : UInt8) (w : World) : Calls Tryd.prog 32 #[.int .u8 (c.toNat : Int)] w fun e w' => e = .returned (.bool (plainB c)) ∧ w = w' := by
  obtain ⟨n, hn⟩ : ∃ n, n = c.toNat := ⟨_, rfl⟩
  have HP : Hid (plainB c = decide (plainP n)) := Lib.hid (by unfold plainB; rw [hn])
  rw [← hn]
  clear hn
  by_cases hp : plainP n
  · have hp' : Hid (plainB c = true) := Lib.hid (by rw [HP.out]; exact decide_eq_true hp)
    have hq : (97 ≤ n ∧ n ≤ 122) ∨ (65 ≤ n ∧ n ≤ 90) ∨ (48 ≤ n ∧ n ≤ 57) ∨ n = 45 ∨ n = 46 ∨ n = 95 := hp
    clear hp
    rcases hq with ⟨a, b⟩ | ⟨a, b⟩ | ⟨a, b⟩ | rfl | rfl | rfl
    · have d1 : decide (97 ≤ (n : Int)) = true := decide_eq_true (by omega)
      go_enter Tryd.func32, Tryd.ntmps32
      go_wp2_with fail
      go_ret
      exact ⟨by rw [hp'.out]; rfl, rfl⟩
    · have d1 : decide (97 ≤ (n : Int)) = false := decide_eq_false (by omega)
      go_enter Tryd.func32, Tryd.ntmps32
      go_wp2_with fail
      go_ret
      exact ⟨by rw [hp'.out]; rfl, rfl⟩
    · have d1 : decide (97 ≤ (n : Int)) = false := decide_eq_false (by omega)
      have d2 : decide (65 ≤ (n : Int)) = false := decide_eq_false (by omega)
      go_enter Tryd.func32, Tryd.ntmps32
      go_wp2_with fail
      go_ret
      exact ⟨by rw [hp'.out]; rfl, rfl⟩
    all_goals
      go_enter Tryd.func32, Tryd.ntmps32
      go_wp2_with fail
      go_ret
      exact ⟨by rw [hp'.out]; rfl, rfl⟩
  · have hp' : Hid (plainB c = false) := Lib.hid (by rw [HP.out]; exact decide_eq_false hp)
    have e1 : ¬ n = 45 := fun e => hp (by unfold plainP; omega)
    have e2 : ¬ n = 46 := fun e => hp (by unfold plainP; omega)
    have e3 : ¬ n = 95 := fun e => hp (by unfold plainP; omega)
    have g1 : ((n : Int) == 45) = false := u8_ne n 45 e1
    have g2 : ((n : Int) == 46) = false := u8_ne n 46 e2
    have g3 : ((n : Int) == 95) = false := u8_ne n 95 e3
    by_cases a1 : 97 ≤ n
    · have a2 : ¬ n ≤ 122 := fun e => hp (by unfold plainP; omega)
      have d1 : decide (97 ≤ (n : Int)) = true := decide_eq_true (by omega)
      have d2 : decide ((n : Int) ≤ 122) = false := decide_eq_false (by omega)
      have d3 : decide (65 ≤ (n : Int)) = true := decide_eq_true (by omega)
      have d4 : decide ((n : Int) ≤ 90) = false := decide_eq_false (by omega)
      have d5 : decide (48 ≤ (n : Int)) = true := decide_eq_true (by omega)
      have d6 : decide ((n : Int) ≤ 57) = false := decide_eq_false (by omega)
      clear hp e1 e2 e3
      go_enter Tryd.func32, Tryd.ntmps32
      go_wp2_with fail
      go_ret
      exact ⟨by rw [hp'.out]; rfl, rfl⟩
    · have d1 : decide (97 ≤ (n : Int)) = false := decide_eq_false (by omega)
      by_cases a3 : 65 ≤ n
      · have a4 : ¬ n ≤ 90 := fun e => hp (by unfold plainP; omega)
        have d3 : decide (65 ≤ (n : Int)) = true := decide_eq_true (by omega)
        have d4 : decide ((n : Int) ≤ 90) = false := decide_eq_false (by omega)
        have d5 : decide (48 ≤ (n : Int)) = true := decide_eq_true (by omega)
        have d6 : decide ((n : Int) ≤ 57) = false := decide_eq_false (by omega)
        clear hp e1 e2 e3
        go_enter Tryd.func32, Tryd.ntmps32
        go_wp2_with fail
        go_ret
        exact ⟨by rw [hp'.out]; rfl, rfl⟩
      · have d3 : decide (65 ≤ (n : Int)) = false := decide_eq_false (by omega)
        by_cases a5 : 48 ≤ n
        · have a6 : ¬ n ≤ 57 := fun e => hp (by unfold plainP; omega)
          have d5 : decide (48 ≤ (n : Int)) = true := decide_eq_true (by omega)
          have d6 : decide ((n : Int) ≤ 57) = false := decide_eq_false (by omega)
          clear hp e1 e2 e3
          go_enter Tryd.func32, Tryd.ntmps32
          go_wp2_with fail
          go_ret
          exact ⟨by rw [hp'.out]; rfl, rfl⟩
        · have d5 : decide (48 ≤ (n : Int)) = false := decide_eq_false (by omega)
          clear hp e1 e2 e3
          go_enter Tryd.func32, Tryd.ntmps32
          go_wp2_with fail
          go_ret
          exact ⟨by rw [hp'.out]; rfl, rfl⟩
theorem u8_and15 (c : UInt8) : bits .and .u8 (c.toNat : Int) 15 = ((c.toNat % 16 : Nat) : Int) := by
  have h : ∀ n : Fin 256, bits .and .u8 ((n.val : Nat) : Int) 15 = ((n.val % 16 : Nat) : Int) := by decide +kernel
  exact h ⟨c.toNat, UInt8.toNat_lt c⟩
set_option maxRecDepth 100000 in
theorem run_hex (x : Nat) (hx : x < 16) (X : Int) (hX : X = (x : Int)) (w : World) : (Instr.index 9 (.string { data := #[48, 49, 50, 51, 52, 53, 54, 55, 56, 57, 65, 66, 67, 68, 69, 70] }) (.int .u8 X)).run Tryd.prog w = .ok (.int .u8 ((hexD x).toNat : Int)) w := by
  subst hX
  have h : x = 0 ∨ x = 1 ∨ x = 2 ∨ x = 3 ∨ x = 4 ∨ x = 5 ∨ x = 6 ∨ x = 7 ∨ x = 8 ∨ x = 9 ∨ x = 10 ∨ x = 11 ∨ x = 12 ∨ x = 13 ∨ x = 14 ∨ x = 15 := by omega
  rcases h with rfl | rfl | rfl | rfl | rfl | rfl | rfl | rfl | rfl | rfl | rfl | rfl | rfl | rfl | rfl | rfl <;> rfl
theorem three_new (w : World) (E : TypeId) (x y z : UInt8) : ∀ (j : Nat) (u : Value), (byteCells [x, y, z])[j]? = some u → (w.drew.alloc (.cells #[.int .u8 (x.toNat : Int), .int .u8 (y.toNat : Int), .int .u8 (z.toNat : Int)] E)).cell? ((⟨w.heap.size, 0, none⟩ : Addr).add j) = some u := fun j u h => by
  have hR : Row (w.drew.alloc (.cells #[.int .u8 (x.toNat : Int), .int .u8 (y.toNat : Int), .int .u8 (z.toNat : Int)] E)) w.heap.size E [.int .u8 (x.toNat : Int), .int .u8 (y.toNat : Int), .int .u8 (z.toNat : Int)] := heap_alloc_new w.drew _
  rw [Addr.add_mid, Nat.zero_add, hR.cell j]
  exact h
theorem codeB_len (c : UInt8) : (codeB c).length ≤ 3 := by unfold codeB; split <;> simp
theorem codeL_len : ∀ l : List UInt8, (codeL l).length ≤ 3 * l.length
  | [] => by simp [codeL]
  | c :: r => by
    have h := codeL_len r
    have h1 := codeB_len c
    unfold codeL at h ⊢
    rw [List.flatMap_cons, List.length_append, List.length_cons]
    omega
theorem codeB_plain {c : UInt8} (h : plainB c = true) : codeB c = [c] := by
  unfold codeB
  rw [if_pos (of_decide_eq_true h)]
theorem codeB_not {c : UInt8} (h : plainB c = false) : codeB c = [37, hexD (c.toNat / 16), hexD (c.toNat % 16)] := by
  unfold codeB
  rw [if_neg (of_decide_eq_false h)]
theorem take_snoc (s : ByteArray) (k : Nat) (h : k < s.size) : s.data.toList.take (k + 1) = s.data.toList.take k ++ [s[k]] := by
  rw [List.take_succ_eq_append_getElem (by rw [← size_eq]; exact h)]
  rfl
theorem codeL_snoc (s : ByteArray) (k : Nat) (h : k < s.size) : codeL (s.data.toList.take (k + 1)) = codeL (s.data.toList.take k) ++ codeB s[k] := by
  rw [take_snoc s k h]
  simp [codeL]
def CodeRel (s : ByteArray) (w : World) (b i : Value) (wr : World) : Prop := ∃ k : Nat, k ≤ s.size ∧ i = .int .i64 k ∧ Buf 5 w wr b (codeL (s.data.toList.take k))
set_option maxRecDepth 100000 in
theorem code_spec (s : ByteArray) (w : World) (hs : s.size ≤ 1048576) :
    Calls Tryd.prog 20 #[.string s] w fun e w' => e = .returned (.string ⟨(codeL s.data.toList).toArray⟩) ∧ Below w.heap.size w w' := by
  obtain ⟨i5, hi, hz0, hz1, hz2⟩ := info_parts info5
  go_enter Tryd.func20, Tryd.ntmps20
  go_wp2_with fail
  go_loopw [4, 5] (CodeRel s w) (fun _ i _ => s.size - (RowKit.intOf i).toNat)
  case atStart => exact ⟨0, by omega, rfl, Buf.lit _ (Below.refl _ _)⟩
  case round =>
    obtain ⟨k, hk, rfl, hb⟩ := hrel
    have HB := Lib.hid hb
    have hbs := hb.below.size
    clear hb
    by_cases hlt : k < s.size
    · by_cases hp : plainB s[k] = true
      · have HC := Lib.hid (codeL_snoc s k hlt)
        have hcl := codeL_len (s.data.toList.take k)
        have hcl2 : (s.data.toList.take k).length ≤ k := List.length_take_le _ _
        have hlen : (codeL (s.data.toList.take k)).length + 1 ≤ 140737488355328 := by omega
        have HE : Hid (codeB s[k] = [s[k]]) := Lib.hid (codeB_plain hp)
        clear hcl hcl2
        go_wp2_with (first | (go_at_call 32; refine (plain_spec s[k] _).mono ?_; rintro e w' ⟨rfl, rfl⟩) | (at_builtin; refine wpList_push rfl (.tmp 17) (.tmp 21) 45 5 rfl i5 Tryd.underlying45 hi hz0 hz1 hz2 w _ _ _ _ rfl HB.out rfl ?p1 ?p2))
        case p1 => exact hlen
        intro v' w1 hb1
        rw [← HE.out, ← HC.out] at hb1
        have HB1 := Lib.hid hb1
        clear hb1
        go_wp2_with fail
        go_roundw
        case rel => exact ⟨k + 1, by omega, by go_num, HB1.out⟩
        case measure => simp [RowKit.intOf]; omega
      · have hp' : plainB s[k] = false := by simpa using hp
        clear hp
        have hlt8 : s[k].toNat < 256 := UInt8.toNat_lt _
        have hA := run_hex (s[k].toNat / 16) (by omega) ((s[k].toNat : Int) / 16) (by omega)
        have hA' := run_hex (s[k].toNat % 16) (by omega) (bits .and .u8 (s[k].toNat : Int) 15) (u8_and15 _)
        go_wp2_with (first | (go_at_call 32; refine (plain_spec s[k] _).mono ?_; rintro e w' ⟨rfl, rfl⟩))
        have hcl := codeL_len (s.data.toList.take k)
        have hcl2 : (s.data.toList.take k).length ≤ k := List.length_take_le _ _
        have hlen : (codeL (s.data.toList.take k)).length + 3 ≤ 140737488355328 := by omega
        clear hcl hcl2
        have HC := Lib.hid (codeL_snoc s k hlt)
        have HE : Hid (codeB s[k] = [37, hexD (s[k].toNat / 16), hexD (s[k].toNat % 16)]) := Lib.hid (codeB_not hp')
        go_region_law (refine step_push rfl (.tmp 23) (.tmp 36) 45 5 rfl i5 Tryd.underlying45 hi hz0 hz1 hz2 w _ _ [37, hexD (s[k].toNat / 16), hexD (s[k].toNat % 16)] ⟨wr.heap.size, 0, none⟩ 3 3 rfl (by first | exact HB.out.drew.alloc _ | exact (HB.out.alloc _).drew) rfl rfl (three_new _ _ _ _ _) hlen ?_; intro v' w1 hb1)
        all_goals
          have HB1 := Lib.hid hb1
          clear hb1 hA hA'
          go_wp2_with fail
          go_roundw
          case rel => exact ⟨k + 1, by omega, by go_num, by rw [HC.out, HE.out]; exact HB1.out⟩
          case measure => simp [RowKit.intOf]; omega
    · obtain rfl : k = s.size := by omega
      have HE : Hid ((⟨(codeL (s.data.toList.take s.size)).toArray⟩ : ByteArray) = ⟨(codeL s.data.toList).toArray⟩) := Lib.hid (by rw [List.take_of_length_le (by rw [← size_eq]; exact Nat.le_refl _)])
      go_wp2_with (refine wpList_buf_str rfl (.tmp 38) 45 9 5 rfl Tryd.underlying45 Tryd.underlying5 Tryd.underlying9 w _ _ rfl HB.out ?_)
      go_wp2_with fail
      go_ret
      exact ⟨ret_str HE.out, HB.out.below⟩
end Go.Proofs.YtjoobpieomhklaaDoor
