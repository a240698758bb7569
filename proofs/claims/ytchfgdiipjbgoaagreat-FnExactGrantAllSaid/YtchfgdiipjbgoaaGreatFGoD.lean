/- What GrantDo answers, in cells. -/
import Derived.Test.YtchfgdiipjbgoaaGreatFSpCp
import Derived.Test.YtchfgdiipjbgoaaGreatFSpU
import Derived.Test.YtchfgdiipjbgoaaGreatFGdI
namespace Go.Proofs.YtchfgdiipjbgoaaGreat
open Go Go.RowKit Go.Lib
set_option linter.unusedVariables false
set_option maxRecDepth 100000

def goL (n : Int) (k : GH) (s : RS) (c : Int) : List Value := [.int .i64 n, .slice k.wp k.wn k.wc, .slice k.kp k.kn k.kc, .slice k.dp k.dn k.dc, .int .i64 s.code, .int .i64 s.token, .int .i64 s.next, .bool s.yes, .int .i64 c]
def goV (n : Int) (k : GH) (s : RS) (c : Int) : Value := .agg #[.int .i64 n, .slice k.wp k.wn k.wc, .slice k.kp k.kn k.kc, .slice k.dp k.dn k.dc, .int .i64 s.code, .int .i64 s.token, .int .i64 s.next, .bool s.yes, .int .i64 c]
def zG : Gr := ⟨0, [], [], []⟩
def zH : GH := ⟨none, 0, 0, none, 0, 0, none, 0, 0⟩
/-- What is answered: the grant, what is told, the code. -/
def gdD (g : Gr) (r : RQ) : Gr × RS × Int := if grantB g && rightB r then ((doD g r).1, (doD g r).2, 0) else (zG, codeR 0, 1)
def GDMade (g : Gr) (s : RS) (c : Int) (w : World) (e : Ending) (w' : World) : Prop := ∃ k : GH, e = .returned (goV g.now k s c) ∧ GrOwn w.heap.size g k w' ∧ Below w.heap.size w w'
theorem own_none (w : World) (N E K : Nat) : w.ownsRow N E K (.slice none 0 0) 0 [] := ⟨by simp, .inl ⟨rfl, rfl⟩⟩
theorem own_zero (N : Nat) (w : World) : GrOwn N zG zH w := ⟨own_none w N _ 5, own_none w N _ 6, own_none w N _ 1⟩
theorem sizeGO : (Tryz.prog.info? 35).map (·.size) = some 9 := by kernel_rfl
theorem oneGO (n : Int) (k : GH) (s : RS) (c : Int) : (#[.int .i64 n, .slice k.wp k.wn k.wc, .slice k.kp k.kn k.kc, .slice k.dp k.dn k.dc, .int .i64 s.code, .int .i64 s.token, .int .i64 s.next, .bool s.yes, .int .i64 c] : Array Value).all (·.oneCell') = true := by simp [Value.oneCell']
theorem ret_go {fn : Func} {p : Tmp} (h : fn.results = #[.cell p 35]) {tmps : Array Value} {w : World} {q : Nat} {n : Int} {k : GH} {s : RS} {c : Int} (hp : tmps.getD p undef = .pointer (some ⟨q, 0, none⟩)) (hr : Row w q 35 (goL n k s c)) :
  (results fn tmps).run Tryz.prog w = .ok (goV n k s c) w := by
 have hu := Tryz.underlying35
 exact results_cell_row h tmps w q 35 (goL n k s c).toArray (0, 0) _ hp hr hu rfl sizeGO
theorem own_move {N M p : Nat} {w w' : World} {g : Gr} {k : GH} (h : GrOwn N g k w) (hk : Kept w.heap.size p p p w w') (hp : p < N) (hM : M ≤ N) : GrOwn M g k w' := by
 have hne : ∀ {E K n : Nat} {v : Value} {x : List Value}, w.ownsRow N E K v n x → (∀ j, v.ownBlock = some j → j < w.heap.size) ∧ some p ≠ v.ownBlock := fun h => ⟨fun j hj => (h.lt j hj).2, fun e => by have := (h.lt _ e.symm).1; omega⟩
 exact ⟨own_down (own_kept h.1 hk (hne h.1)) hM, own_down (own_kept h.2.1 hk (hne h.2.1)) hM, own_down (own_kept h.2.2 hk (hne h.2.2)) hM⟩
theorem GrOwn.later {N : Nat} {w w' : World} {g : Gr} {k : GH} (h : GrOwn N g k w) (hb : Below w.heap.size w w') : GrOwn N g k w' := ⟨own_late h.1 hb, own_late h.2.1 hb, own_late h.2.2 hb⟩
theorem blk_ge {N p b s n m c : Nat} {w : World} {q : Option Addr} {x : List Value} (h : w.ownsRow N b s (.slice q m c) n x) (hp : N ≤ p) : N ≤ blkOf q p := by
 rcases own_ways h with ⟨rfl, _⟩ | ⟨gN, rfl, h1, _⟩
 ·exact hp
 ·exact h1
end Go.Proofs.YtchfgdiipjbgoaaGreat
