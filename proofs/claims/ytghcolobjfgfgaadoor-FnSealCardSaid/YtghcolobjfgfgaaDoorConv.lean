/- []byte(s), one byte changed, and back. -/
import Derived.Test.YtghcolobjfgfgaaDoorSealMath
import Derived.Test.YtghcolobjfgfgaaDoorAt
import Derived.Lib.ConvBytes
namespace Go.Proofs.YtghcolobjfgfgaaDoor
open Go Go.RowKit

/-- Block g begins with the bytes of s; they may be written. -/
def StrRow (w : World) (g : Nat) (s : ByteArray) : Prop := Lib.Bytes w g 0 s ∧ (∀ j, j < s.size → w.frozen? ⟨g, j, none⟩ = false) ∧ g < w.heap.size
theorem strRow_new (w : World) (e : TypeId) (s : ByteArray) : StrRow (Lib.bytesWorld w e s) w.heap.size s := by
  refine ⟨fun i hi => ?_, fun j hj => ?_, by rw [Lib.bytesWorld_size]; omega⟩
  · rw [Nat.zero_add, Lib.bytesWorld_cell w e s i hi]
    congr 2
    simp [List.getD, hi]
    rfl
  · simp [World.frozen?, Lib.bytesWorld_at_new, Lib.bytesCells]
    omega
theorem below_conv (w : World) (e : TypeId) (s : ByteArray) : Below w.heap.size w (Lib.bytesWorld w e s) :=
  ⟨rfl, rfl, rfl, by rw [Lib.bytesWorld_size]; omega, fun k hk => Lib.bytesWorld_at_old w e s k hk⟩

section
variable {P : Program} {w : World} {ops : Array Oper} {rest : List Oper} {o : Oper} {a : Act} {Q : Exit → Act → World → Prop}
theorem wpList_str_bytes (hgd : o.guard = none) (x : Operand) (src dst E : TypeId) (ho : o.op = .convert src dst x) (hs : P.underlying src = some .string) (hd : P.underlying dst = some (.slice E)) (he : P.underlying E = some (.int .u8))
    (s : ByteArray) (hx : a.eval x = .string s) (B : Nat) (w0 : World) (hb : Below B w0 w) (hB : B ≤ w.heap.size)
    (hK : ∀ g cap w', B ≤ g → StrRow w' g s → Below B w0 w' → wpList P ops Q rest (a.put o.dst (.slice (some ⟨g, 0, none⟩) s.size cap)) w') : wpList P ops Q (o :: rest) a w := by
  refine wpList_plain hgd fun K hK' => ?_
  have hrun := Lib.run_convert_string_bytes (P := P) w src dst E s hs hd he
  unfold Oper.wp
  simp [execOp, ho, hx, hrun, Result.andThen]
  exact hK' _ _ (hK _ _ _ hB (strRow_new w E s) (hb.trans ((below_conv w E s).mono hB)))
end

/-- The row once byte i is written. -/
theorem bytes_put {w : World} {g : Nat} {s : ByteArray} (h : Lib.Bytes w g 0 s) (i : Nat) (hi : i < s.size) (x : UInt8) (v : Value) (hv : v = .int .u8 (x.toNat : Int)) : Lib.Bytes (w.setCell ⟨g, i, none⟩ v) g 0 (putAt s i x) := fun j hj => by
  have hg := get_at (putAt s i x) j hj
  rw [putAt_list, List.getElem?_set] at hg
  rw [putAt_size] at hj
  have hc := h j hj
  rw [Nat.zero_add] at hc ⊢
  by_cases e : i = j
  · subst e
    rw [if_pos rfl, if_pos (by rw [list_len]; exact hi)] at hg
    rw [World.cell?_setCell_same _ _ _ hc, hv, ← Option.some.inj hg]
  · rw [if_neg e, get_at s j hj] at hg
    rw [World.cell?_setCell_other _ _ _ _ (fun e' => e (by injection e')), hc, ← Option.some.inj hg]
theorem xor_new (x : Nat) (r : Nat) (hx : x < 256) (hr : r < 255) : ∃ y : UInt8, bits .xor .u8 (x : Int) ((r : Int) + 1) = (y.toNat : Int) ∧ y.toNat ≠ x := by
  have hl : x ^^^ (r + 1) < 256 := Nat.xor_lt_two_pow (n := 8) (by omega) (by omega)
  have e : (UInt8.ofNat (x ^^^ (r + 1))).toNat = x ^^^ (r + 1) := by rw [UInt8.toNat_ofNat']; exact Nat.mod_eq_of_lt hl
  refine ⟨UInt8.ofNat (x ^^^ (r + 1)), ?_, ?_⟩
  · rw [show ((r : Int) + 1) = ((r + 1 : Nat) : Int) from by omega, u8_xor_nat x (r + 1) hx (by omega), e]
  · rw [e]
    intro h
    have := Ma.xor_inj (a := r + 1) (b := 0) (c := x) (by rw [Nat.xor_comm, h]; simp)
    omega

/-- The row of s with byte i changed. -/
def Changed (s : ByteArray) (g i : Nat) (w0 w : World) : Prop := ∃ y : UInt8, (∀ h : i < s.data.toList.length, y ≠ s.data.toList[i]) ∧ Lib.Bytes w g 0 (putAt s i y) ∧ Below w0.heap.size w0 w
theorem changed_of {s : ByteArray} {g i r : Nat} {w0 w w' : World} {V : Int} (hR : StrRow w g s) (hi : i < s.size) (hr : r < 255) (hV : V = bits .xor .u8 ((s.data.toList[i]'(by rw [list_len]; exact hi)).toNat : Int) ((r : Int) + 1))
    (hw : w' = w.setCell ⟨g, i, none⟩ (.int .u8 V)) (hb : Below w0.heap.size w0 w) (hg : w0.heap.size ≤ g) : Changed s g i w0 w' := by
  obtain ⟨y, h1, h2⟩ := xor_new (s.data.toList[i]'(by rw [list_len]; exact hi)).toNat r (UInt8.toNat_lt _) hr
  subst hw
  refine ⟨y, fun _ e => h2 (by rw [e]), bytes_put hR.1 i hi y _ (by rw [hV, h1]), hb.setCell hg _⟩
end Go.Proofs.YtghcolobjfgfgaaDoor
