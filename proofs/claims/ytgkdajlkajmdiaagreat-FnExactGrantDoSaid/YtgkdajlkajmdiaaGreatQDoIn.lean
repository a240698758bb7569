/- What holds while a request is served: where the request, the result and the ledger lie. -/
import Derived.Test.YtgkdajlkajmdiaaGreatQDo1
namespace Go.Proofs.YtgkdajlkajmdiaaGreat
open Go Go.RowKit Go.Lib
set_option linter.unusedVariables false
set_option maxRecDepth 100000

structure SIn (B lb mw mk : Nat) (g : Gr) (r : RQ) (s : RS) (w W : World) : Prop where
  resp : Row W (w.heap.size + 1) 33 (rsL s)
  req : Row W w.heap.size 29 (rqL r)
  led : LedAt W B lb mw mk g
  kept : Kept w.heap.size lb mw mk w W
  size : w.heap.size + 2 ≤ W.heap.size
  old : B ≤ w.heap.size ∧ lb < w.heap.size ∧ mw < w.heap.size ∧ mk < w.heap.size
  place : B ≤ lb ∧ B ≤ mw ∧ B ≤ mk
theorem SIn.start {B lb mw mk : Nat} {g : Gr} {w : World} (r : RQ) (s : RS) (hl : LedAt w B lb mw mk g) :
    SIn B lb mw mk g r s w ((w.alloc (.cells #[.int .i64 r.no, .int .i64 r.kind, .int .i64 r.client, .int .i64 r.code, .int .i64 r.token, .string r.proof, .int .i64 r.upTo] 29)).alloc (.cells #[.int .i64 s.code, .int .i64 s.token, .int .i64 s.next, .bool s.yes] 33)) where
  resp := heap_alloc2_new w _ _
  req := Row.below (show Row (w.alloc (.cells #[.int .i64 r.no, .int .i64 r.kind, .int .i64 r.client, .int .i64 r.code, .int .i64 r.token, .string r.proof, .int .i64 r.upTo] 29)) w.heap.size 29 _ from heap_alloc_new w _)
    ((Below.refl (w.alloc (.cells #[.int .i64 r.no, .int .i64 r.kind, .int .i64 r.client, .int .i64 r.code, .int .i64 r.token, .string r.proof, .int .i64 r.upTo] 29)).heap.size _).alloc (Nat.le_refl _) _) (by simp)
  led := hl.later (((Below.refl w.heap.size w).alloc (Nat.le_refl _) _).alloc (by simp) _)
  kept := Kept.of_below (((Below.refl w.heap.size w).alloc (Nat.le_refl _) _).alloc (by simp) _)
  size := by simp
  old := hl.size
  place := hl.places
section
variable {B lb mw mk : Nat} {g g' : Gr} {r : RQ} {s s' : RS} {w W W' : World}
theorem SIn.later (h : SIn B lb mw mk g r s w W) (hb : Below W.heap.size W W') : SIn B lb mw mk g r s w W' where
  resp := h.resp.below hb h.resp.lt
  req := h.req.below hb h.req.lt
  led := h.led.later hb
  kept := h.kept.later hb (by have := h.size; omega)
  size := Nat.le_trans h.size hb.size
  old := h.old
  place := h.place
/-- After a step that turns the ledger alone. -/
theorem SIn.step (h : SIn B lb mw mk g r s w W) (hl : LedAt W' B lb mw mk g') (hk : Kept W.heap.size lb mw mk W W') : SIn B lb mw mk g' r s w W' where
  resp := h.resp.kept hk h.resp.lt (by have := h.old; omega) (by have := h.old; omega) (by have := h.old; omega)
  req := h.req.kept hk h.req.lt (by have := h.old; omega) (by have := h.old; omega) (by have := h.old; omega)
  led := hl
  kept := h.kept.trans (hk.mono (by have := h.size; omega))
  size := Nat.le_trans h.size hk.size
  old := h.old
  place := h.place
theorem SIn.grown {j : Nat} (h : SIn B lb mw mk g r s w W) (hl : LedAt W' B lb mw mk g') (hg : W.grownBy W' (some j)) (hj : j = lb ∨ j = mw ∨ j = mk) : SIn B lb mw mk g' r s w W' :=
  h.step hl ((Kept.refl _ _ _ _ _).grown hg (Nat.le_refl _) (by omega))
/-- After a store into what the call itself has made later. -/
theorem SIn.setCell (h : SIn B lb mw mk g r s w W) {a : Addr} (u : Value) (ha : w.heap.size + 2 ≤ a.block) : SIn B lb mw mk g r s w (W.setCell a u) where
  resp := h.resp.kept (Kept.setCell (N := w.heap.size + 2) (Kept.refl _ lb mw mk _) u (.inr (.inr (.inr ha)))) (by omega) (by have := h.old; omega) (by have := h.old; omega) (by have := h.old; omega)
  req := h.req.kept (Kept.setCell (N := w.heap.size + 2) (Kept.refl _ lb mw mk _) u (.inr (.inr (.inr ha)))) (by omega) (by have := h.old; omega) (by have := h.old; omega) (by have := h.old; omega)
  led := h.led.setCell u (.inr (by have := h.old; omega))
  kept := h.kept.setCell u (.inr (.inr (.inr (by omega))))
  size := by simpa using h.size
  old := h.old
  place := h.place
theorem SIn.there (h : SIn B lb mw mk g r s w W) : W.there (w.heap.size + 1) 0 4 := there_resp h.resp rfl
theorem SIn.put (h : SIn B lb mw mk g r s w W) (s' : RS) : SIn B lb mw mk g r s' w (W.setCells (w.heap.size + 1) 0 #[.int .i64 s'.code, .int .i64 s'.token, .int .i64 s'.next, .bool s'.yes].toList) where
  resp := put_resp h.resp rfl
  req := h.req.kept (Kept.setCells (N := w.heap.size + 1) (by omega) _ 0 (Kept.refl _ lb mw mk _)) (by omega) (by have := h.old; omega) (by have := h.old; omega) (by have := h.old; omega)
  led := LedAt.setCells_res _ _ 0 h.led (by have := h.old; omega)
  kept := Kept.setCells (by omega) _ 0 h.kept
  size := Nat.le_trans h.size (Kept.setCells (N := w.heap.size + 1) (by omega) _ 0 (Kept.refl _ lb mw mk _)).size
  old := h.old
  place := h.place
theorem SIn.told (h : SIn B lb mw mk g r s w W) : LedOut2 B lb mw mk g s w (.returned (rsV s)) W := ⟨rfl, h.led, h.kept⟩
end
end Go.Proofs.YtgkdajlkajmdiaaGreat
