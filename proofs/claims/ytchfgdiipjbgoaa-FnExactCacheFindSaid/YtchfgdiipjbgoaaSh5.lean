/- What all share: an entry is looked for. -/
import Derived.Test.YtchfgdiipjbgoaaSh4
import Derived.Test.YtchfgdiipjbgoaaStImp
namespace Go.Proofs.Ytchfgdiipjbgoaa
open Go Go.RowKit Go.Lib Go.MuLone
set_option linter.unusedVariables false
set_option maxRecDepth 100000

def zE : En := ⟨0, 0, 0, 0⟩
def findE (l : List En) (t v : Int) : En := if hasTok l t then (match l[(enIx l t).toNat]? with | some x => if x.ver = v then x else zE | none => zE) else zE
theorem findE_none {l : List En} {t v : Int} (h : hasTok l t = false) : findE l t v = zE := by simp [findE, h]
theorem findE_at {l : List En} {t v : Int} {k : Nat} {x : En} (h : hasTok l t = true) (hi : enIx l t = (k : Nat)) (hx : l[k]? = some x) : findE l t v = if x.ver = v then x else zE := by
  unfold findE
  rw [if_pos h, hi, Int.toNat_natCast, hx]
theorem sizeEn : (Try.prog.info? 32).map (·.size) = some 4 := by kernel_rfl
theorem oneEnV (x : En) : (#[.int .i64 x.token, .int .i64 x.client, .int .i64 x.till, .int .i64 x.ver] : Array Value).all (·.oneCell') = true := by simp [Value.oneCell']
theorem ret_en {fn : Func} {p : Tmp} (h : fn.results = #[.cell p 32]) {tmps : Array Value} {w : World} {g : Nat} {x : En} (hp : tmps.getD p undef = .pointer (some ⟨g, 0, none⟩)) (hr : Row w g 32 (enCf x)) :
    (results fn tmps).run Try.prog w = .ok (enV x) w := by
  have hu := Try.underlying32
  exact results_cell_row h tmps w g 32 (enCf x).toArray (0, 0) _ hp hr hu rfl sizeEn
theorem LIn.of_own {w : World} {base n c : Nat} {q : Option Addr} {l : List En} (ho : w.ownsRow base 32 4 (.slice q n c) l.length (l.flatMap enCf)) : LIn enCf w q l := by
  rcases Nat.eq_zero_or_pos l.length with h0 | h0
  · exact .inl (List.eq_nil_of_length_eq_zero h0)
  · obtain ⟨gN, h1, _, _, _, h2⟩ := own_some ho h0
    exact .inr ⟨gN, 0, h1, fun j u hj => by rw [Nat.zero_add]; exact h2 j u hj⟩
set_option maxHeartbeats 4000000 in
theorem find_any {b base c' : Nat} {q : Option Addr} {l : List En} {t v : Int} {w : World} (hm : w.cell? ⟨b, 3, none⟩ = some (.int .i32 0)) (hz : w.frozen? ⟨b, 3, none⟩ = false) (hc : w.cell? ⟨b, 5, none⟩ = some (.slice q l.length c'))
    (ho : w.ownsRow base 32 4 (.slice q l.length c') l.length (l.flatMap enCf)) (hne : ∀ k, (Value.slice q l.length c').ownBlock = some k → k ≠ b) (hl : l.length ≤ 1048576) :
    Calls Try.prog 18 #[.pointer (some ⟨b, 3, none⟩), .int .i64 t, .int .i64 v] w fun e w' => e = .returned (enV (findE l t v)) ∧ Below b w w' := by
  have hbz : b < w.heap.size := by have := World.block_lt_of_cell? w _ hm; simpa using this
  obtain ⟨g, hg⟩ : ∃ g, g = w.heap.size := ⟨_, rfl⟩
  obtain ⟨W0, hW0⟩ : ∃ W0, W0 = w.alloc (.cells #[.int .i64 0, .int .i64 0, .int .i64 0, .int .i64 0] 32) := ⟨_, rfl⟩
  have hb0 : Below w.heap.size w W0 := by rw [hW0]; exact (Below.refl _ _).alloc (Nat.le_refl _) _
  have r0 : Row W0 g 32 (enCf zE) := by rw [hW0, hg]; exact heap_alloc_new w _
  have m0 : W0.cell? ⟨b, 3, none⟩ = some (.int .i32 0) := (hb0.cell (p := ⟨b, 3, none⟩) hbz).trans hm
  have z0 : W0.frozen? ⟨b, 3, none⟩ = false := (hb0.frozen (p := ⟨b, 3, none⟩) hbz).trans hz
  have c0 : W0.cell? ⟨b, 5, none⟩ = some (.slice q l.length c') := (hb0.cell (p := ⟨b, 5, none⟩) hbz).trans hc
  have o0 := own_late ho hb0
  have hgb : b < g := by omega
  obtain ⟨W1, hW1⟩ : ∃ W1, W1 = W0.setCell ⟨b, 3, none⟩ (.int .i32 1) := ⟨_, rfl⟩
  have m1 : W1.cell? ⟨b, 3, none⟩ = some (.int .i32 1) := by rw [hW1]; exact World.cell?_setCell_same W0 ⟨b, 3, none⟩ (.int .i32 1) m0
  have z1 : W1.frozen? ⟨b, 3, none⟩ = false := by rw [hW1]; simpa using z0
  have c1 : W1.cell? ⟨b, 5, none⟩ = some (.slice q l.length c') := by rw [hW1]; exact (World.cell?_setCell_other W0 ⟨b, 3, none⟩ ⟨b, 5, none⟩ _ (by simp)).trans c0
  have o1 : W1.ownsRow base 32 4 (.slice q l.length c') l.length (l.flatMap enCf) := by
    rw [hW1]
    exact own_at o0 (fun k hk => Below.heap_setCell W0 ⟨b, 3, none⟩ _ k (hne k hk))
  have r1 : Row W1 g 32 (enCf zE) := by rw [hW1]; exact Row.setElse (a := ⟨b, 3, none⟩) r0 (by show g ≠ b; omega) _
  have b1 : Below b w W1 := by rw [hW1]; exact (hb0.mono (by omega)).trans ⟨rfl, rfl, rfl, by simp, fun k hk => Below.heap_setCell W0 ⟨b, 3, none⟩ _ k (by show k ≠ b; omega)⟩
  have L0 := Lib.hid (lock_free muLib ⟨b, 3, none⟩ W0 m0 z0)
  have hs1 := r1.lt
  have hbW1 : b < W1.heap.size := by omega
  have HW0 := Lib.hid hW0
  have HW1 := Lib.hid hW1
  have HG := Lib.hid hg
  have HO1 := Lib.hid o1
  have HR1 := Lib.hid r1
  have HB1 := Lib.hid b1
  have HM1 := Lib.hid m1
  have HZ1 := Lib.hid z1
  clear hm hz hc ho hb0 r0 m0 z0 c0 o0 o1 r1 b1 m1 z1 hW0 hW1 hg
  go_enter_defers Try.func18, Try.ntmps18
  go_wp2_with fail
  rw [← HW0.out, ← HG.out]
  refine L0.out.mono ?_
  rintro e w1 ⟨rfl, hw1⟩
  rw [hw1, ← HW1.out]
  clear hw1
  obtain ⟨i, hi⟩ : ∃ i, i = enIx l t := ⟨_, rfl⟩
  have HP := Lib.hid (placeOf_any q c' l t W1 (LIn.of_own HO1.out) hl)
  have HI := Lib.hid hi
  go_wp2_with fail
  refine HP.out.mono ?_
  rintro e W2 ⟨rfl, hb2⟩
  rw [← HI.out]
  have c2 : W2.cell? ⟨b, 5, none⟩ = some (.slice q l.length c') := (hb2.cell (p := ⟨b, 5, none⟩) hbW1).trans c1
  have m2 : W2.cell? ⟨b, 3, none⟩ = some (.int .i32 1) := (hb2.cell (p := ⟨b, 3, none⟩) hbW1).trans HM1.out
  have z2 : W2.frozen? ⟨b, 3, none⟩ = false := (hb2.frozen (p := ⟨b, 3, none⟩) hbW1).trans HZ1.out
  have r2 := HR1.out.below hb2 hs1
  have o2 := own_late HO1.out hb2
  have b2 := HB1.out.trans (hb2.mono (by omega))
  have HM2 := Lib.hid m2
  have HZ2 := Lib.hid z2
  have HR2 := Lib.hid r2
  have HB2 := Lib.hid b2
  clear m2 z2 b2 c1 hb2 HP hs1 hbW1
  cases ht : hasTok l t with
  | false =>
    have hi1 : i = -1 := by rw [hi]; simp [enIx, ht]
    clear hi HI
    subst hi1
    go_wp2_with (refine Stop.out (p := wpList _ _ _ [{ dst := none, op := .store 32 (.tmp 6) (.tmp 35), type := _, pos := _, after := _, guard := _ }] _ _) ?_)
    constructor
    refine wpList_store_to rfl 32 (.tmp 6) (.tmp 35) rfl g 0 #[.int .i64 0, .int .i64 0, .int .i64 0, .int .i64 0] rfl rfl (HR2.out.there 0 4 (by simp [enCf])) sizeEn (oneEnV zE) ?_
    intro Z hZ
    have kz : Kept W2.heap.size g g g W2 Z := by rw [hZ]; exact Kept.setCells (.inl rfl) _ 0 (Kept.refl _ _ _ _ _)
    have rz : Row Z g 32 (enCf zE) := by rw [hZ]; exact HR2.out.setCells _ 0
    have bz : Z.heap[b]? = W2.heap[b]? := kz.block b (by have := HR2.out.lt; omega) (by omega) (by omega) (by omega)
    have mz : Z.cell? ⟨b, 3, none⟩ = some (.int .i32 1) := (World.cell?_of_block (a := ⟨b, 3, none⟩) bz).trans HM2.out
    have zz : Z.frozen? ⟨b, 3, none⟩ = false := (World.frozen?_of_block (a := ⟨b, 3, none⟩) bz).trans HZ2.out
    have hbz2 : Below b w Z := HB2.out.trans (kz.below (by have := HR2.out.lt; omega) (by omega) (by omega) (by omega))
    have RZ := Lib.hid rz
    have BZ := Lib.hid hbz2
    clear hZ kz rz bz hbz2
    go_wp2_with fail
    refine leaves_cons (f := 42) (args := #[.pointer (some ⟨b, 3, none⟩)]) (by simp) (by simp [go_sem]) ?_
    refine (unlock_deferred muLib ⟨b, 3, none⟩ .returning _ mz zz).mono ?_
    rintro e u' w'' ⟨rfl, rfl, rfl⟩
    refine ⟨_, ret_en (x := zE) rfl rfl (Row.setElse (a := ⟨b, 3, none⟩) RZ.out (by show g ≠ b; omega) _), by rw [findE_none ht], BZ.out.trans ⟨rfl, rfl, rfl, by simp, fun k hk => Below.heap_setCell Z ⟨b, 3, none⟩ _ k (by show k ≠ b; omega)⟩⟩
  | true =>
    obtain ⟨k, x, hk, hx, -, -⟩ := enIx_some ht
    have hF := findE_at (v := v) ht hk hx
    rw [hk] at hi
    clear HI
    subst hi
    have hkl : k < l.length := (List.getElem?_eq_some_iff.1 hx).1
    have hL := LIn.of_own o2
    obtain ⟨gN, oN, rfl, hat⟩ := hL.some hx
    obtain ⟨e0, e1, e2, e3⟩ := en_cells hat hx
    cases hv : (x.ver != v) with
    | true =>
      have hr : findE l t v = zE := by rw [hF, if_neg (by simpa using hv)]
      clear hF hL hat
      go_wp2_with (refine Stop.out (p := wpList _ _ _ [{ dst := none, op := .store 32 (.tmp 6) (.tmp 35), type := _, pos := _, after := _, guard := _ }] _ _) ?_)
      constructor
      refine wpList_store_to rfl 32 (.tmp 6) (.tmp 35) rfl g 0 #[.int .i64 0, .int .i64 0, .int .i64 0, .int .i64 0] rfl rfl (HR2.out.there 0 4 (by simp [enCf])) sizeEn (oneEnV zE) ?_
      intro Z hZ
      have kz : Kept W2.heap.size g g g W2 Z := by rw [hZ]; exact Kept.setCells (.inl rfl) _ 0 (Kept.refl _ _ _ _ _)
      have rz : Row Z g 32 (enCf zE) := by rw [hZ]; exact HR2.out.setCells _ 0
      have bz : Z.heap[b]? = W2.heap[b]? := kz.block b (by have := HR2.out.lt; omega) (by omega) (by omega) (by omega)
      have mz : Z.cell? ⟨b, 3, none⟩ = some (.int .i32 1) := (World.cell?_of_block (a := ⟨b, 3, none⟩) bz).trans HM2.out
      have zz : Z.frozen? ⟨b, 3, none⟩ = false := (World.frozen?_of_block (a := ⟨b, 3, none⟩) bz).trans HZ2.out
      have hbz2 : Below b w Z := HB2.out.trans (kz.below (by have := HR2.out.lt; omega) (by omega) (by omega) (by omega))
      have RZ := Lib.hid rz
      have BZ := Lib.hid hbz2
      clear hZ kz rz bz hbz2
      go_wp2_with fail
      refine leaves_cons (f := 42) (args := #[.pointer (some ⟨b, 3, none⟩)]) (by simp) (by simp [go_sem]) ?_
      refine (unlock_deferred muLib ⟨b, 3, none⟩ .returning _ mz zz).mono ?_
      rintro e u' w'' ⟨rfl, rfl, rfl⟩
      refine ⟨_, ret_en (x := zE) rfl rfl (Row.setElse (a := ⟨b, 3, none⟩) RZ.out (by show g ≠ b; omega) _), by rw [hr], BZ.out.trans ⟨rfl, rfl, rfl, by simp, fun k hk => Below.heap_setCell Z ⟨b, 3, none⟩ _ k (by show k ≠ b; omega)⟩⟩
    | false =>
      have hr : findE l t v = x := by rw [hF, if_pos (by simpa using hv)]
      clear hF hL hat
      go_wp2_with (refine Stop.out (p := wpList _ _ _ [{ dst := none, op := .store 32 (.tmp 6) (.tmp 42), type := _, pos := _, after := _, guard := _ }] _ _) ?_)
      constructor
      refine wpList_store_to rfl 32 (.tmp 6) (.tmp 42) rfl g 0 #[.int .i64 x.token, .int .i64 x.client, .int .i64 x.till, .int .i64 x.ver] rfl rfl (HR2.out.there 0 4 (by simp [enCf])) sizeEn (oneEnV x) ?_
      intro Z hZ
      have kz : Kept W2.heap.size g g g W2 Z := by rw [hZ]; exact Kept.setCells (.inl rfl) _ 0 (Kept.refl _ _ _ _ _)
      have rz : Row Z g 32 (enCf x) := by rw [hZ]; exact HR2.out.setCells _ 0
      have bz : Z.heap[b]? = W2.heap[b]? := kz.block b (by have := HR2.out.lt; omega) (by omega) (by omega) (by omega)
      have mz : Z.cell? ⟨b, 3, none⟩ = some (.int .i32 1) := (World.cell?_of_block (a := ⟨b, 3, none⟩) bz).trans HM2.out
      have zz : Z.frozen? ⟨b, 3, none⟩ = false := (World.frozen?_of_block (a := ⟨b, 3, none⟩) bz).trans HZ2.out
      have hbz2 : Below b w Z := HB2.out.trans (kz.below (by have := HR2.out.lt; omega) (by omega) (by omega) (by omega))
      have RZ := Lib.hid rz
      have BZ := Lib.hid hbz2
      clear hZ kz rz bz hbz2
      go_wp2_with fail
      refine leaves_cons (f := 42) (args := #[.pointer (some ⟨b, 3, none⟩)]) (by simp) (by simp [go_sem]) ?_
      refine (unlock_deferred muLib ⟨b, 3, none⟩ .returning _ mz zz).mono ?_
      rintro e u' w'' ⟨rfl, rfl, rfl⟩
      refine ⟨_, ret_en (x := x) rfl rfl (Row.setElse (a := ⟨b, 3, none⟩) RZ.out (by show g ≠ b; omega) _), by rw [hr], BZ.out.trans ⟨rfl, rfl, rfl, by simp, fun k hk => Below.heap_setCell Z ⟨b, 3, none⟩ _ k (by show k ≠ b; omega)⟩⟩
end Go.Proofs.Ytchfgdiipjbgoaa
