/- impl.splitParts: the walk. -/
import Derived.Test.YtjoobpieomhklaaDoorPart
import Derived.Deep.LoopGhost
import Derived.WalkMore
import Derived.ScopeJumps
namespace Go.Proofs.YtjoobpieomhklaaDoor
open Go Go.RowKit Go.Lib
set_option linter.unusedVariables false

/-- internal/bytealg.MaxLen holds some integer. -/
def MaxG (w : World) : Prop := ∃ m : Int, w.cell? ⟨1, 0, none⟩ = some (.int .i64 m)
theorem MaxG.later {w w1 : World} (h : MaxG w) (hb : Below w.heap.size w w1) : MaxG w1 := by
  obtain ⟨m, hm⟩ := h
  exact ⟨m, (hb.cell (p := ⟨1, 0, none⟩) (World.block_lt_of_cell? w _ hm)).trans hm⟩
theorem split_cells (s : ByteArray) : (splitB ⟨#[38]⟩ 0 (countB s ⟨#[38]⟩) s).map Value.string = (splitL s.data.toList).map strV := by
  rw [← splitB_eq, List.map_map]
  apply List.map_congr_left
  intro p _
  simp [strV]
theorem split_count (s : ByteArray) : countB s ⟨#[38]⟩ + 1 = (splitL s.data.toList).length := by
  rw [← splitB_eq, List.length_map, splitB_all ⟨#[38]⟩ (by decide) 0 _ s rfl]
def SplitIs (s : ByteArray) (w : World) (e : Ending) (w' : World) : Prop := e = .returned (.slice (some ⟨w.heap.size, 0, none⟩) (splitL s.data.toList).length (splitL s.data.toList).length) ∧ w' = w.alloc (.cells ((splitL s.data.toList).map strV).toArray 9)
theorem split_lib (s : ByteArray) (w : World) (hs : s.size ≤ 8000) (hg : MaxG w) :
    Calls Tryd.prog 33 #[.string s, .string { data := #[38] }] w (SplitIs s w) := by
  obtain ⟨m, hm⟩ := hg
  exact (Tryd.strings_Split s ⟨#[38]⟩ m w (by omega) hm (by decide)).mono fun e w' ⟨h1, h2⟩ => ⟨by rw [h1, split_count], by rw [h2, split_cells]⟩

def rawCf (p : List UInt8) : List Value := pairCf (rawP p)
def RawRel (ps : List (List UInt8)) (n : Nat) (w : World) (g : Nat) (v i : Value) (wr : World) : Prop := ∃ k : Nat, k + g = n ∧ i = .int .i64 k ∧ Own 32 2 (w.alloc (.cells (ps.map strV).toArray 9)) wr v k ((ps.take k).flatMap rawCf) ∧ (0 < k → v ≠ .slice none 0 0)
theorem pair_cells_new (w : World) (E : TypeId) (x y : ByteArray) : ∀ (j : Nat) (u : Value), ([.string x, .string y] : List Value)[j]? = some u → (w.drew.alloc (.cells #[.string x, .string y] E)).cell? ((⟨w.heap.size, 0, none⟩ : Addr).add j) = some u := fun j u h => by
  have hR : Row (w.drew.alloc (.cells #[.string x, .string y] E)) w.heap.size E [.string x, .string y] := heap_alloc_new w.drew _
  rw [Addr.add_mid, Nat.zero_add, hR.cell j]
  exact h
theorem two_one {x y : ByteArray} : ∀ u ∈ ([.string x, .string y] : List Value), u.oneCell' = true := by
  intro u hu
  simp at hu
  rcases hu with rfl | rfl <;> rfl
theorem raw_hit {p : ByteArray} {j : Nat} (hj : j < p.size) (hc : p[j] = 61) (hno : (61 : UInt8) ∉ p.data.toList.take j) : rawCf p.data.toList = [.string (p.extract 0 j), .string (p.extract (j + 1) p.size)] := by
  have h1 : cutL p.data.toList = (p.data.toList.take j, p.data.toList.drop (j + 1)) := by
    conv => lhs; rw [split_at hj hc]
    exact cutL_hit _ _ hno
  unfold rawCf rawP pairCf
  rw [h1, ← str_eq (extract_from_zero p j), ← str_eq (extract_drop p (j + 1))]
theorem raw_none {p : ByteArray} (hno : (61 : UInt8) ∉ p.data.toList) : rawCf p.data.toList = [.string p, .string { data := #[] }] := by
  unfold rawCf rawP pairCf
  rw [cutL_none _ hno, ← str_eq (a := p) rfl]
  rfl
theorem raw_step {ps : List (List UInt8)} {k : Nat} {p : List UInt8} (hp : ps[k]? = some p) : (ps.take (k + 1)).flatMap rawCf = (ps.take k).flatMap rawCf ++ rawCf p := by
  rw [List.take_add_one, hp, Option.toList_some, List.flatMap_append]
  simp
theorem split_small {l p : List UInt8} : ∀ (n : Nat) (l : List UInt8), l.length ≤ n → p ∈ splitL l → p.length ≤ l.length
  | _, [], _, h => by simp [splitL] at h; subst h; simp
  | 0, c :: r, hn, _ => by simp at hn
  | n + 1, c :: r, hn, h => by
    have ih : p ∈ splitL r → p.length ≤ r.length := split_small (l := l) n r (by simp at hn; omega)
    have ih2 : ∀ q, q ∈ splitL r → q.length ≤ r.length := fun q hq => split_small (l := l) n r (by simp at hn; omega) hq
    unfold splitL at h
    split at h
    · rcases List.mem_cons.1 h with rfl | h
      · simp
      · have := ih h; simp; omega
    · split at h
      · simp at h; subst h; simp
      · rename_i q qs hq
        rcases List.mem_cons.1 h with rfl | h
        · have := ih2 q (by rw [hq]; simp); simp; omega
        · have := ih (by rw [hq]; simp [h]); simp; omega
def CutRel (p : List UInt8) (n : Nat) (wr : World) (V : Value) (g : Nat) (v i : Value) (wy : World) : Prop := ∃ j : Nat, j + g = n ∧ i = .int .i64 j ∧ (61 : UInt8) ∉ p.take j ∧ wr = wy ∧ V = v
def RawOut (ps : List (List UInt8)) (w : World) (e : Ending) (w' : World) : Prop := ∃ v, e = .returned v ∧ Own 32 2 w w' v ps.length (ps.flatMap rawCf) ∧ v ≠ .slice none 0 0

set_option maxRecDepth 100000 in
set_option maxHeartbeats 1000000 in
theorem parts_impl (s : ByteArray) (w : World) (hs : s.size ≤ 8000) (hg : MaxG w) :
    Calls Tryd.prog 21 #[.string s] w (RawOut (splitL s.data.toList) w) := by
  obtain ⟨i5, hi, hz0, hz1, hz2⟩ := info_parts pairInfo
  go_enter Tryd.func21, Tryd.ntmps21
  go_wp2_with fail
  go_step3
  go_wp2_with fail
  go_step3
  go_wp2_with (go_at_call 33; refine (split_lib s _ hs hg).mono ?_; rintro e w1 ⟨rfl, rfl⟩)
  have hw1 : w.heap.size < (w.alloc (.cells ((splitL s.data.toList).map strV).toArray 9)).heap.size := by simp
  have HBW := Lib.hid ((Below.refl w.heap.size w).alloc (Nat.le_refl _) (.cells ((splitL s.data.toList).map strV).toArray 9))
  have HPS : Hid (∀ p ∈ splitL s.data.toList, p.length ≤ 8000) := Lib.hid (fun p hp => Nat.le_trans (split_small (l := []) _ s.data.toList (Nat.le_refl _) hp) (by rw [← size_eq]; exact hs))
  have HLen : Hid ((splitL s.data.toList).length ≤ 8001) := Lib.hid (Nat.le_trans (splitL_length_le _) (by rw [← size_eq]; omega))
  have HNe : Hid (0 < (splitL s.data.toList).length) := Lib.hid (List.length_pos_iff.2 (splitL_ne _))
  have HRow : Hid ((w.alloc (.cells ((splitL s.data.toList).map strV).toArray 9)).rangeAt w.heap.size 0 ((splitL s.data.toList).map strV)) := Lib.hid (Row.range (heap_alloc_new w _))
  generalize splitL s.data.toList = ps at *
  obtain ⟨n, hn⟩ : ∃ n, n = ps.length := ⟨_, rfl⟩
  rw [← hn]
  have HN := Lib.hid hn
  have hn1 : n ≤ 8001 := by rw [hn]; exact HLen.out
  clear hn
  go_loopg [3, 10] n (RawRel ps n w)
  case atStart => exact ⟨0, by omega, rfl, by rw [List.take_zero]; exact Own.nil _ _ (Below.refl _ _), fun h => by omega⟩
  case round =>
    obtain ⟨k, hkg, rfl, hown, hnn⟩ := hrel
    have HO := Lib.hid hown
    have HNN := Lib.hid hnn
    clear hown hnn
    cases gk with
    | zero =>
      have hkz : ¬ ((k : Int) < (n : Int)) := by omega
      go_wp2_with fail
      go_ret
      have hk : k = n := by omega
      subst hk
      refine ⟨_, rfl, ?_, HNN.out (by have := HN.out; have := HNe.out; omega)⟩
      have h := HO.out.weaken HBW.out
      rw [List.take_of_length_le (by rw [HN.out]; exact Nat.le_refl _)] at h
      rw [← HN.out]
      exact h
    | succ g =>
      have hkz : (k : Int) < (n : Int) := by omega
      obtain ⟨p, hp⟩ : ∃ p, ps[k]? = some p := ⟨_, List.getElem?_eq_getElem (by rw [← HN.out]; omega)⟩
      have hps := HPS.out p (List.mem_of_getElem? hp)
      have HST := Lib.hid (raw_step hp)
      have hcell : wr.cell? ⟨w.heap.size, k, none⟩ = some (.string (bs p)) := by
        have h := rangeAt_below HRow.out HO.out.2 hw1
        have h2 := h k (strV p) (by rw [List.getElem?_map, hp]; rfl)
        rwa [Nat.zero_add] at h2
      have HD := Lib.hid (bs_data p)
      have hsz : (bs p).size ≤ 8000 := hps
      generalize bs p = q at *
      clear hp hps
      go_wp2_with fail
      go_loopg [3, 16] q.size (CutRel p q.size wr u3)
      case atStart => exact ⟨0, by omega, rfl, by simp, rfl, rfl⟩
      case round =>
        obtain ⟨j, hjg, rfl, hno, rfl, rfl⟩ := hrel
        have HNo := Lib.hid hno
        clear hno
        cases gk with
        | zero =>
          obtain rfl : j = q.size := by omega
          have HR := Lib.hid (raw_none (p := q) (by have h := HNo.out; rw [← HD.out, List.take_of_length_le (by rw [← size_eq]; exact Nat.le_refl _)] at h; exact h))
          go_wp2_with (at_builtin; (refine wpList_app rfl (.tmp 35) (.tmp 38) 22 32 rfl i5 _ 2 32 Tryd.underlying22 hi hz0 hz1 hz2 rfl (by omega) (by omega) (w.alloc (.cells (ps.map strV).toArray 9)) _ k _ [.string q, .string { data := #[] }] rfl HO.out _ rfl rfl rfl two_one (by omega) ?_))
          intro v' w1 hown1 _ hne
          rw [← HR.out, HD.out, ← HST.out] at hown1
          have HO1 := Lib.hid hown1
          have HNe1 := Lib.hid hne
          clear hown1 hne
          go_wp2_with fail
          go_roundg g
          case measure => omega
          case rel => exact ⟨k + 1, by omega, by go_num, HO1.out, fun _ => HNe1.out⟩
        | succ g2 =>
          have hj : j < q.size := by omega
          by_cases hc : q[j].toNat = 61
          · have hcb : ((q[j].toNat : Int) == 61) = true := by rw [hc]; rfl
            have HR := Lib.hid (raw_hit hj (UInt8.toNat_inj.1 hc) (by rw [HD.out]; exact HNo.out))
            have i0 : (0 : Int) ≤ (j : Int) + 1 := by omega
            have i1 : (j : Int) + 1 ≤ (q.size : Int) := by omega
            have i4 : ((j : Int) + 1).toNat = j + 1 := by omega
            have i6 : IntKind.i64.wrap ((j : Int) + 1) = (j : Int) + 1 := IntWalk.i64_in _ (by omega)
            have hk3 : k ≤ 1048576 := by omega
            have i9 : j ≤ q.size := by omega
            have i10 : j + 1 ≤ q.size := by omega
            clear hc
            go_wp2_with fail
            go_region_law (refine step_app rfl (.tmp 23) (.tmp 32) 22 32 rfl i5 _ 2 32 Tryd.underlying22 hi hz0 hz1 hz2 rfl (by decide) (by decide) (w.alloc (.cells (ps.map strV).toArray 9)) _ k _ [.string (q.extract 0 j), .string (q.extract (j + 1) q.size)] rfl (by first | exact HO.out.drew.alloc _ | exact (HO.out.alloc _).drew) ⟨wr.heap.size, 0, none⟩ rfl (pair_cells_new _ _ _ _) rfl two_one hk3 ?_; intro v' w1 hown1 hne)
            all_goals
              rw [← HR.out, HD.out, ← HST.out] at hown1
              have HO1 := Lib.hid hown1
              have HNe1 := Lib.hid hne
              clear hown1 hne i0 i1 i6
              go_wp2_with fail
              go_roundg g
              case measure => omega
              case rel => exact ⟨k + 1, by omega, by go_num, HO1.out, fun _ => HNe1.out⟩
          · have hcb : ((q[j].toNat : Int) == 61) = false := by rw [beq_eq_false_iff_ne]; omega
            have HC : Hid ((61 : UInt8) ≠ q[j]) := Lib.hid (fun e => hc (by rw [← e]; rfl))
            clear hc
            go_wp2_with fail
            go_roundg g2
            case measure => omega
            case rel => exact ⟨j + 1, by omega, by go_num, by rw [← HD.out]; exact not_mem_step hj (by rw [HD.out]; exact HNo.out) HC.out, rfl, rfl⟩
end Go.Proofs.YtjoobpieomhklaaDoor
