/- The numbers of a ledger's words and keys, sorted. Right requests: their numbers; what a right request does to a right grant's time. impl.join: the two texts, one behind the other. A grant out of its ledger: what the walk wants. A region that draws its order, of which a load reads a cell that the region itself writes behind an append: what holds of the world, till that append comes up, and behind it. Over any program. -/
import Derived.Test.YtjccnjfdeedneaaGreatSLays
import Derived.Test.YtjccnjfdeedneaaGreatSGdD
import Derived.Lib.SlKeysI
import Derived.Outline
import Derived.Test.YtjccnjfdeedneaaGreatSGdA
import Derived.Laws.FloatArith
import Derived.OwnWalk
import Derived.OrdersHeld
import Derived.Deep.RegionHeld
namespace Go.Proofs.YtjccnjfdeedneaaGreat
open Go Go.RowKit Go.Lib Go.Maps Go.Shelf Go.Sort
set_option linter.unusedVariables false
set_option maxRecDepth 100000

theorem sorts (m : Nat) : AnyZI.SortsIn Tryz.prog Tryz.sortedZ_ren Fence.wide m :=
 ⟨fun blk off cap ss W hH hblk hsz => callsIn_wide.2 (AnyM.slices_Sort_int Tryz.sortZ blk off cap ss W hH hblk hsz),
  fun p cap W => callsIn_wide.2 (AnyM.slices_Sort_int_none Tryz.sortZ p cap W)⟩
/-- A list that rises strictly is what its numbers sort to. -/
theorem sorted_self {l : List Int} (h : l.Pairwise (fun a b => a < b)) : l.mergeSort leI = l := by
 have tr : ∀ a b c : Int, leI a b = true → leI b c = true → leI a c = true := fun a b c h1 h2 => by simp only [leI, decide_eq_true_eq] at *; exact Int.le_trans h1 h2
 have to : ∀ a b : Int, (leI a b || leI b a) = true := fun a b => by simp only [leI, Bool.or_eq_true, decide_eq_true_eq]; exact Int.le_total a b
 refine List.Perm.eq_of_pairwise (le := fun a b => leI a b = true) (fun a b _ _ h1 h2 => ?_) (List.pairwise_mergeSort tr to l) (h.imp fun {a b} hab => by simp only [leI, decide_eq_true_eq]; omega) (List.mergeSort_perm l leI)
 simp only [leI, decide_eq_true_eq] at h1 h2
 exact Int.le_antisymm h1 h2
theorem IMap.perm {w : World} {b N : Nat} {F : Int → Option Value} {l : List Int} {D : DataW Value} (h1 : w.ownsMap Tryz.prog 2 heldE b N D) (h2 : ∀ i : Int, Maps.has D (.int .i64 i) = (F i).isSome) (hnd : l.Nodup) (hm : ∀ i, i ∈ l ↔ (F i).isSome = true) : l.Perm (intKeys D) :=
 CollectedI.perm (left := fun _ => false) ⟨hnd, fun x => by rw [hm, h2]; simp⟩ h1 (int_keyed Tryz.underlying2) Tryz.underlying2 (fun _ => rfl)
theorem rise_nodup {l : List Int} (h : l.Pairwise (fun a b => a < b)) : l.Nodup := h.imp fun {a b} hab e => by omega
/-- What maps.Keys hands back is asked by slices.Sorted. -/
theorem sorted_words {w : World} {Bm b N : Nat} {F : Int → Option Value} {l : List Int} (hm : IMap Tryz.prog 2 w b N F) (hc : w.cell? ⟨Bm, 0, none⟩ = some (.map (some b))) (hN : N ≤ 1000) (hl : l.Pairwise (fun a b => a < b)) (hF : ∀ i, i ∈ l ↔ (F i).isSome = true) :
  Calls Tryz.prog 172 #[.func (.func 200) #[] #[.pointer (some ⟨Bm, 0, none⟩)]] w fun e w' => ∃ v, e = .returned v ∧ w'.ownsRow w.heap.size 2 1 v l.length (l.map encZ) ∧ Below w.heap.size w w' := by
 obtain ⟨D, h1, h2, h3⟩ := hm
 refine (callsIn_wide (n := 6)).1 ?_
 have hBm : Bm < w.heap.size := World.block_lt_of_cell? w _ hc
 have hseq : SeqGives Fence.wide 3 Tryz.prog 200 #[.pointer (some ⟨Bm, 0, none⟩)] encZ (fun ss => ss.Perm (intKeys D)) (Maps.size D) w :=
  AnyZI.keys_gives (ρ := Tryz.keysW_ren) { Tryz.keysW with } Fence.wide _ trivial rfl (by omega) Bm b N D _ hBm hc h1
 have cS := AnyZI.sorted_in Tryz.sortedZ Fence.wide 6 trivial trivial trivial trivial rfl (by omega) (sorts _) (enters_of Tryz.func199 (by kernel_rfl) rfl) 200 #[.pointer (some ⟨Bm, 0, none⟩)] trivial (enters_of Tryz.func200 (by kernel_rfl) rfl) _ _ (by rw [h2]; unfold maxLen; omega) (by rw [h2]; omega) _ hseq
 refine cS.mono ?_
 rintro e w' ⟨v, ss, rfl, hS, hrow, hnil, hb⟩
 have hp : l.Perm (intKeys D) := IMap.perm h1 (fun i => (h3 i).1) (rise_nodup hl) hF
 have hss : ss.mergeSort leI = l := by rw [mergeSort_of_perm_i (hS.trans hp.symm), sorted_self hl]
 have hlen : ss.length = l.length := (hS.trans hp.symm).length_eq
 change w'.ownsRow w.heap.size _ 1 v ss.length (List.map encZ (ss.mergeSort leI)) at hrow
 rw [hss, hlen] at hrow
 exact ⟨v, rfl, hrow, hb⟩
theorem sorted_keys {w : World} {Bm b N : Nat} {F : Int → Option Value} {l : List Int} (hm : IMap Tryz.prog 2 w b N F) (hc : w.cell? ⟨Bm, 0, none⟩ = some (.map (some b))) (hN : N ≤ 1000) (hl : l.Pairwise (fun a b => a < b)) (hF : ∀ i, i ∈ l ↔ (F i).isSome = true) :
  Calls Tryz.prog 172 #[.func (.func 202) #[] #[.pointer (some ⟨Bm, 0, none⟩)]] w fun e w' => ∃ v, e = .returned v ∧ w'.ownsRow w.heap.size 2 1 v l.length (l.map encZ) ∧ Below w.heap.size w w' := by
 obtain ⟨D, h1, h2, h3⟩ := hm
 refine (callsIn_wide (n := 6)).1 ?_
 have hBm : Bm < w.heap.size := World.block_lt_of_cell? w _ hc
 have hseq : SeqGives Fence.wide 3 Tryz.prog 202 #[.pointer (some ⟨Bm, 0, none⟩)] encZ (fun ss => ss.Perm (intKeys D)) (Maps.size D) w :=
  AnyZI.keys_gives (ρ := Tryz.keysK_ren) { Tryz.keysK with } Fence.wide _ trivial rfl (by omega) Bm b N D _ hBm hc h1
 have cS := AnyZI.sorted_in Tryz.sortedZ Fence.wide 6 trivial trivial trivial trivial rfl (by omega) (sorts _) (enters_of Tryz.func199 (by kernel_rfl) rfl) 202 #[.pointer (some ⟨Bm, 0, none⟩)] trivial (enters_of Tryz.func202 (by kernel_rfl) rfl) _ _ (by rw [h2]; unfold maxLen; omega) (by rw [h2]; omega) _ hseq
 refine cS.mono ?_
 rintro e w' ⟨v, ss, rfl, hS, hrow, hnil, hb⟩
 have hp : l.Perm (intKeys D) := IMap.perm h1 (fun i => (h3 i).1) (rise_nodup hl) hF
 have hss : ss.mergeSort leI = l := by rw [mergeSort_of_perm_i (hS.trans hp.symm), sorted_self hl]
 have hlen : ss.length = l.length := (hS.trans hp.symm).length_eq
 change w'.ownsRow w.heap.size _ 1 v ss.length (List.map encZ (ss.mergeSort leI)) at hrow
 rw [hss, hlen] at hrow
 exact ⟨v, rfl, hrow, hb⟩
theorem keys_words (mb : Option Nat) (w : World) : Calls Tryz.prog 173 #[.map mb] w fun e w' => e = .returned (.func (.func 200) #[] #[.pointer (some ⟨w.heap.size, 0, none⟩)]) ∧ w' = w.alloc (.cells #[.map mb] 117) :=
 (callsIn_wide (n := 5)).1 (AnyZI.keys_in Tryz.keysW Fence.wide 5 trivial rfl mb w)
theorem keys_keys (mb : Option Nat) (w : World) : Calls Tryz.prog 175 #[.map mb] w fun e w' => e = .returned (.func (.func 202) #[] #[.pointer (some ⟨w.heap.size, 0, none⟩)]) ∧ w' = w.alloc (.cells #[.map mb] 118) :=
 (callsIn_wide (n := 5)).1 (AnyZI.keys_in Tryz.keysK Fence.wide 5 trivial rfl mb w)
end Go.Proofs.YtjccnjfdeedneaaGreat
/- Right requests: their numbers; what a right request does to a right grant's time. -/
namespace Go.Proofs.YtjccnjfdeedneaaGreat
open Go Go.RowKit Go.Lib
set_option linter.unusedVariables false

theorem numB_range {h : Bool} {n m : Int} (hm : 0 ≤ m) (hn : numB h n m = true) : 0 ≤ n ∧ n ≤ m := by
 unfold numB at hn
 split at hn
 ·have := isB_iff.1 hn; omega
 ·have := eq_of_beq hn; omega
theorem rq_facts {r : RQ} (h : rightB r = true) : (1 ≤ r.no ∧ r.no ≤ 99) ∧ (1 ≤ r.kind ∧ r.kind ≤ 6) ∧ (0 ≤ r.client ∧ r.client ≤ 3) ∧ (0 ≤ r.code ∧ r.code ≤ 99) ∧ (0 ≤ r.token ∧ r.token ≤ 999) ∧ (0 ≤ r.upTo ∧ r.upTo ≤ 1000) ∧ r.proof.size ≤ 8 := by
 unfold rightB at h
 simp only [Bool.and_eq_true] at h
 obtain ⟨⟨h1, h2⟩, ⟨⟨⟨h3, h4⟩, h5⟩, h6⟩, h7⟩ := h
 refine ⟨isB_iff.1 h1, isB_iff.1 h2, numB_range (by omega) h3, numB_range (by omega) h4, numB_range (by omega) h5, numB_range (by omega) h6, ?_⟩
 split at h7
 ·exact (of_decide_eq_true h7).2.1
 ·rw [ByteArray.toList_eq] at h7
  have h8 := List.isEmpty_iff.1 h7
  have h9 : r.proof.data.size = 0 := by rw [← Array.length_toList, h8]; rfl
  show r.proof.data.size ≤ 8
  omega
/-- A request for a word: its client and proof are right. -/
theorem rq_issue {r : RQ} (h : rightB r = true) (hk : r.kind = 1) : (1 ≤ r.client ∧ r.client ≤ 3) ∧ proofB r.proof = true := by
 unfold rightB at h
 rw [hk] at h
 simp only [Bool.and_eq_true] at h
 obtain ⟨_, ⟨⟨⟨h3, _⟩, _⟩, _⟩, h7⟩ := h
 rw [show hasB (takesS 1) 99 = true by decide] at h3
 rw [show hasB (takesS 1) 112 = true by decide] at h7
 exact ⟨isB_iff.1 h3, h7⟩
theorem rq_trade {r : RQ} (h : rightB r = true) (hk : r.kind = 2 ∨ r.kind = 3) : 1 ≤ r.client ∧ r.client ≤ 3 := by
 unfold rightB at h
 simp only [Bool.and_eq_true] at h
 obtain ⟨_, ⟨⟨⟨h3, _⟩, _⟩, _⟩, h7⟩ := h
 have e : hasB (takesS r.kind) 99 = true := by rcases hk with hk | hk <;> (rw [hk]; decide)
 rw [e] at h3
 exact isB_iff.1 h3
theorem LedAt.ticked {w w3 : World} {B lb mw mk : Nat} {g : Gr} {n : Int} (hl : LedAt w B lb mw mk g) (hn : g.now ≤ n) (hw3 : w3 = w.setCell ⟨lb, 0, none⟩ (.float .f64 (floatOfInt .f64 n))) : LedAt w3 B lb mw mk ⟨n, g.words, g.keys, g.dead⟩ := by
 subst hw3
 obtain ⟨td, htd, hr, hw, hk, hd⟩ := hl
 exact ⟨td, fun i => ⟨(htd i).1, by have := (htd i).2; show td i ≤ n; omega⟩, hr.set 0 _, hw.setCell (fun e => hd.2.2.2.1 e.symm) _, hk.setCell (fun e => hd.2.2.2.2.1 e.symm) _, hd⟩
theorem LedAt.free {w : World} {B lb mw mk : Nat} {g : Gr} (hl : LedAt w B lb mw mk g) : w.frozen? ⟨lb, 0, none⟩ = false := by
 obtain ⟨td, htd, hr, _⟩ := hl
 exact hr.free 0
end Go.Proofs.YtjccnjfdeedneaaGreat
/- impl.join: the two texts, one behind the other. -/
namespace Go.Proofs.YtjccnjfdeedneaaGreat
open Go Go.RowKit Go.Lib

theorem join_any (s t : ByteArray) (w : World) (hs : s.size + t.size ≤ 140737488355328) :
  Calls Tryz.prog 130 #[.string s, .string t] w fun e w' => e = .returned (.string (s ++ t)) ∧ Below w.heap.size w w' := by
 obtain ⟨i5, hi, hz0, hz1, hz2⟩ := info_parts info5
 have hlen : ∀ z : Value, (List.replicate (s.size + t.size) z).length = s.size + t.size := fun z => List.length_replicate
 have hlen2 := length_splice (List.replicate (s.size + t.size) (Value.int .u8 0)) 0 (byteCells s.data.toList) (by rw [hlen, byteCells_length, ← size_eq]; omega)
 rw [hlen] at hlen2
 have HL := Lib.hid hlen
 have HL2 := Lib.hid hlen2
 clear hlen hlen2
 have hsz : ∀ w, (Go.sizeOf 5).run Tryz.prog w = .ok 1 w := fun w => by kernel_rfl
 have HZ := Lib.hid hsz
 clear hsz
 go_enter Tryz.func130, Tryz.ntmps130
 go_wp2_with (refine wpList_make_bytes rfl (.tmp 11) (.tmp 11) 233 rfl 5 i5 (.int .u8 0) Tryz.underlying233 hi hz0 hz1 hz2 rfl .i64 .i64 _ _ (s.size + t.size) rfl rfl ?h1 ?h2 hs w.heap.size w (Below.refl _ _) (Nat.le_refl _) ?_)
 case h1 => go_num
 case h2 => go_num
 intro w1 g hg hr hb hl
 have HR := Lib.hid hr
 clear hr
 go_wp2_with (refine wpList_copy_str rfl (.tmp 13) (.tmp 14) 233 9 rfl 5 Tryz.underlying233 info5s _ _ _ s rfl rfl g 0 _ HR.out ?c1 (fun _ => rfl) ?c3 w.heap.size w hb hg ?_)
 case c1 => omega
 case c3 => rw [HL.out]; omega
 intro w2 hr2 hb2 hl2
 have HR2 := Lib.hid hr2
 clear hr2
 go_wp2_with (refine wpList_slice_tail rfl (.tmp 16) (.tmp 17) 233 5 rfl Tryz.underlying233 HZ.out g s.size t.size _ _ _ rfl rfl rfl rfl rfl ?_)
 intro dp hdp
 have HD := Lib.hid hdp
 clear hdp
 go_wp2_with (refine wpList_copy_str rfl (.tmp 18) (.tmp 19) 233 9 rfl 5 Tryz.underlying233 info5s _ _ _ t rfl rfl g s.size _ HR2.out ?d1 HD.out ?d3 w.heap.size w hb2 hg ?_)
 case d1 => omega
 case d3 => rw [HL2.out]; exact Nat.le_refl _
 intro w3 hr3 hb3 hl3
 rw [splice_two] at hr3
 have HR3 := Lib.hid hr3
 clear hr3
 go_wp2_with (refine wpList_bytes_str rfl (.tmp 21) 233 9 5 rfl Tryz.underlying233 Tryz.underlying5 Tryz.underlying9 g _ _ (s ++ t) rfl [] HR3.out ?e1 ?_)
 case e1 => simp
 go_wp2_with fail
 go_ret
 exact ⟨rfl, hb3⟩
end Go.Proofs.YtjccnjfdeedneaaGreat
/- A grant out of its ledger: what the walk wants. -/
namespace Go.Proofs.YtjccnjfdeedneaaGreat
open Go Go.RowKit Go.Lib
set_option linter.unusedVariables false
set_option maxRecDepth 100000

theorem conv_fl {n : Int} (hn : Whole n) (w : World) : (convert 205 2 (.float .f64 (floatOfInt .f64 n))).run Tryz.prog w = .ok (.int .i64 n) w :=
 run_convert_float_int w 205 2 .f64 .i64 _ n (by rw [Tryz.underlying205]; rfl) Tryz.underlying2 (toInt_of hn)
theorem IMap.block {P : Program} {k : TypeId} {w w' : World} {b N : Nat} {F : Int → Option Value} (h : IMap P k w b N F) (hb : w'.heap[b]? = w.heap[b]?) : IMap P k w' b N F := by
 obtain ⟨D, h1, h2⟩ := h
 obtain ⟨es, clock, hb1, r⟩ := h1
 exact ⟨D, ⟨es, clock, hb.trans hb1, r⟩, h2⟩
theorem LedTd.keptP {w w' : World} {B lb mw mk N p : Nat} {g : Gr} {td : Int → Int} (h : LedTd w B lb mw mk g td) (hk : Kept N p p p w w') (h1 : lb < N ∧ mw < N ∧ mk < N) (h2 : lb ≠ p ∧ mw ≠ p ∧ mk ≠ p) : LedTd w' B lb mw mk g td :=
 ⟨h.1, h.2.1.kept hk h1.1 h2.1 h2.1 h2.1, h.2.2.1.block (hk.block _ h1.2.1 h2.2.1 h2.2.1 h2.2.1), h.2.2.2.1.block (hk.block _ h1.2.2 h2.2.2 h2.2.2 h2.2.2), h.2.2.2.2⟩
/-- Rows of unlike types lie in unlike blocks. -/
theorem own_apart {w : World} {b1 b2 e1 e2 s1 s2 n1 n2 : Nat} {v1 v2 : Value} {x1 x2 : List Value} (h1 : w.ownsRow b1 e1 s1 v1 n1 x1) (h2 : w.ownsRow b2 e2 s2 v2 n2 x2) (hne : e1 ≠ e2) : v1.ownBlock = none ∨ v1.ownBlock ≠ v2.ownBlock := by
 rcases h1.2 with ⟨rfl, _⟩ | ⟨g1, cap1, cur1, rfl, _, hg1, _⟩
 ·exact .inl rfl
 ·rcases h2.2 with ⟨rfl, _⟩ | ⟨g2, cap2, cur2, rfl, _, hg2, _⟩
  ·right; simp [Value.ownBlock]
  ·right
   simp only [Value.ownBlock, ne_eq, Option.some.injEq]
   rintro rfl
   rw [hg1] at hg2
   simp only [Option.some.injEq, Obj.cells.injEq] at hg2
   exact hne hg2.2.1
theorem row_apart {w : World} {g e1 b2 e2 s2 n2 : Nat} {v2 : Value} {l x2 : List Value} (h1 : Row w g e1 l) (h2 : w.ownsRow b2 e2 s2 v2 n2 x2) (hne : e1 ≠ e2) : some g ≠ v2.ownBlock := by
 rcases h2.2 with ⟨rfl, _⟩ | ⟨g2, cap2, cur2, rfl, _, hg2, _⟩
 ·simp [Value.ownBlock]
 ·simp only [Value.ownBlock, ne_eq, Option.some.injEq]
  rintro rfl
  unfold Row at h1
  rw [h1] at hg2
  simp only [Option.some.injEq, Obj.cells.injEq] at hg2
  exact hne hg2.2.1
theorem own_later {w w' : World} {b e s n : Nat} {v : Value} {x : List Value} (h : w.ownsRow b e s v n x) (hb : Below w.heap.size w w') : w'.ownsRow b e s v n x := by
 refine ⟨h.1, ?_⟩
 rcases h.2 with h2 | ⟨g, cap, cur, hv, hg, hc, hr⟩
 ·exact .inl h2
 ·exact .inr ⟨g, cap, cur, hv, hg, by rw [hb.block g (Array.getElem?_eq_some_iff.1 hc).1]; exact hc, hr⟩
theorem own_setCell {w : World} {b e s n : Nat} {v : Value} {x : List Value} {a : Addr} (u : Value) (h : w.ownsRow b e s v n x) (hne : some a.block ≠ v.ownBlock) : (w.setCell a u).ownsRow b e s v n x := by
 refine ⟨h.1, ?_⟩
 rcases h.2 with h2 | ⟨g, cap, cur, rfl, hg, hc, hr⟩
 ·exact .inl h2
 ·refine .inr ⟨g, cap, cur, rfl, hg, ?_, hr⟩
  rw [Below.heap_setCell _ _ _ _ (fun e => hne (by simp [Value.ownBlock, e]))]
  exact hc

/-- The numbers of words and of keys rise. -/
theorem words_rise : ∀ {l : List Wd} {b : Int}, wordsOk b l = true → (l.map (·.no)).Pairwise (fun x y => x < y)
 | [], _, _ => List.Pairwise.nil
 | x :: r, b, h => by
  have hu := h
  unfold wordsOk at hu
  rw [Bool.and_eq_true] at hu
  rw [List.map_cons, List.pairwise_cons]
  refine ⟨fun n hn => ?_, words_rise hu.2⟩
  obtain ⟨y, hy, rfl⟩ := List.mem_map.1 hn
  exact wordsOk_up hu.2 y hy
theorem keysOk_up {ws : List Wd} {l : List Ky} {b : Int} (h : keysOk ws b l = true) : ∀ x ∈ l, b < x.no := fun x hx => by
 obtain ⟨k, hk⟩ := List.getElem?_of_mem hx
 exact (keysOk_get h hk).1.1
theorem keys_rise {ws : List Wd} : ∀ {l : List Ky} {b : Int}, keysOk ws b l = true → (l.map (·.no)).Pairwise (fun x y => x < y)
 | [], _, _ => List.Pairwise.nil
 | x :: r, b, h => by
  have hu := h
  unfold keysOk at hu
  rw [Bool.and_eq_true] at hu
  rw [List.map_cons, List.pairwise_cons]
  refine ⟨fun n hn => ?_, keys_rise hu.2⟩
  obtain ⟨y, hy, rfl⟩ := List.mem_map.1 hn
  exact keysOk_up hu.2 y hy
theorem deads_rise {ws : List Wd} : ∀ {l : List Int} {b : Int}, deadOk ws b l = true → l.Pairwise (fun x y => x < y)
 | [], _, _ => List.Pairwise.nil
 | x :: r, b, h => by
  have hu := h
  unfold deadOk at hu
  rw [Bool.and_eq_true] at hu
  rw [List.pairwise_cons]
  exact ⟨fun n hn => (deadOk_up hu.2 n hn).1, deads_rise hu.2⟩
theorem words_mem (ws : List Wd) (dead : List Int) (td : Int → Int) (i : Int) : i ∈ ws.map (·.no) ↔ (wdF ws dead td i).isSome = true := by
 unfold wdF findW
 rw [Option.isSome_map, List.find?_isSome]
 simp [List.mem_map]
theorem keys_mem (ks : List Ky) (i : Int) : i ∈ ks.map (·.no) ↔ (kyF ks i).isSome = true := by
 unfold kyF findK
 rw [Option.isSome_map, List.find?_isSome]
 simp [List.mem_map]
/-- The dead, in the order of the words. -/
def deadsOf (dead : List Int) (l : List Wd) : List Int := (l.map (·.no)).filter (isDeadB dead)
theorem rise_eq {l l' : List Int} (h : l.Pairwise (fun x y => x < y)) (h' : l'.Pairwise (fun x y => x < y)) (hm : ∀ i, i ∈ l ↔ i ∈ l') : l = l' := by
 have hp : l.Perm l' := (List.perm_ext_iff_of_nodup (rise_nodup h) (rise_nodup h')).2 hm
 rw [← sorted_self h, ← sorted_self h', mergeSort_of_perm_i hp]
theorem deads_eq {g : Gr} (hg : grantB g = true) : deadsOf g.dead g.words = g.dead := by
 obtain ⟨_, _, _, hws, _, hds⟩ := gr_facts hg
 refine rise_eq ((words_rise hws).filter _) (deads_rise hds) fun i => ?_
 unfold deadsOf
 rw [List.mem_filter]
 constructor
 ·rintro ⟨_, h⟩
  unfold isDeadB at h
  obtain ⟨d, hd, he⟩ := List.any_eq_true.1 h
  rw [← eq_of_beq he]; exact hd
 ·intro h
  have h2 := (deadOk_up hds i h).2
  unfold hasNo at h2
  obtain ⟨y, hy, he⟩ := List.any_eq_true.1 h2
  exact ⟨List.mem_map.2 ⟨y, hy, eq_of_beq he⟩, by unfold isDeadB; rw [List.any_eq_true]; exact ⟨i, h, by simp⟩⟩
theorem deadsOf_step {dead : List Int} {l : List Wd} {k : Nat} {x : Wd} (hx : l[k]? = some x) : deadsOf dead (l.take (k + 1)) = deadsOf dead (l.take k) ++ (if isDeadB dead x.no then [x.no] else []) := by
 unfold deadsOf
 rw [take_snoc hx, List.map_append, List.filter_append]
 congr 1
 cases h : isDeadB dead x.no <;> simp [h]
theorem deadsOf_len (dead : List Int) (l : List Wd) : (deadsOf dead l).length ≤ l.length := by
 unfold deadsOf
 exact Nat.le_trans (List.length_filter_le _ _) (by simp)
theorem flat_step {α : Type} {cf : α → List Value} {l : List α} {k : Nat} {x : α} (h : l[k]? = some x) : (l.take (k + 1)).flatMap cf = (l.take k).flatMap cf ++ cf x := by
 rw [take_snoc h, List.flatMap_append]; simp
theorem findW_get {l : List Wd} {b : Int} {k : Nat} {x : Wd} (h : wordsOk b l = true) (hx : l[k]? = some x) : findW l x.no = some x :=
 findW_some hx rfl fun j y hj hy => by
  have h1 := (wordsOk_get h hx).2 y (List.mem_take_iff_getElem.2 ⟨j, by have := (List.getElem?_eq_some_iff.1 hy).1; omega, by simpa using (List.getElem?_eq_some_iff.1 hy).2⟩)
  omega
theorem findK_get {ws : List Wd} {l : List Ky} {b : Int} {k : Nat} {x : Ky} (h : keysOk ws b l = true) (hx : l[k]? = some x) : findK l x.no = some x :=
 findK_some hx rfl fun j y hj hy => by
  have h1 := (keysOk_get h hx).2 y (List.mem_take_iff_getElem.2 ⟨j, by have := (List.getElem?_eq_some_iff.1 hy).1; omega, by simpa using (List.getElem?_eq_some_iff.1 hy).2⟩)
  omega
theorem Kept.grownO {N lb mw mk : Nat} {w w1 w2 : World} {r : Option Nat} (h : Kept N lb mw mk w w1) (hg : w1.grownBy w2 r) (hN : N ≤ w1.heap.size) (hj : ∀ j, r = some j → N ≤ j) : Kept N lb mw mk w w2 :=
 h.trans ⟨hg.os, hg.tape, hg.output, hg.size, fun i h1 h2 h3 h4 => hg.block i (by omega) (fun e => by have := hj i e.symm; omega)⟩
theorem append_nil (s : ByteArray) : s ++ ⟨#[]⟩ = s := by
 apply ByteArray.ext
 simp
end Go.Proofs.YtjccnjfdeedneaaGreat
/- A region that draws its order, of which a load reads a cell that the region itself writes behind an append: what holds of the world, till that append comes up, and behind it. Over any program. -/
namespace Go.Proofs.YtjccnjfdeedneaaGreat
open Go

section
variable {P : Program} {ops : Array Oper} {Q : Exit → Act → World → Prop} {md : Region.Mode} {m : Nat} {A B : World → Prop}

/-- A holds till number m has come up, B always. -/
def HL (m : Nat) (A B : World → Prop) (l : Array Bool) (w : World) : Prop := (l.getD m true = false → A w) ∧ B w
theorem HL.unset {i : Nat} (him : i ≠ m) {l : Array Bool} {w : World} (h : HL m A B (l.setIfInBounds i true) w) : HL m A B l w := ⟨fun e => h.1 (by rw [getD_set_ne true him]; exact e), h.2⟩
theorem HL.set {i : Nat} (him : i ≠ m) {l : Array Bool} {w : World} (h : HL m A B l w) : HL m A B (l.setIfInBounds i true) w := ⟨fun e => h.1 (by rw [getD_set_ne true him] at e; exact e), h.2⟩

def wpAnyL (P : Program) (md : Region.Mode) (ops : Array Oper) (Q : Exit → Act → World → Prop) (m : Nat) (A B : World → Prop) : Nat → Array Bool → Act → World → Prop
 | 0, listed, a, w => Region.ready md ops listed = [] ∧ Q .normal a w
 | fuel + 1, listed, a, w =>
  (Region.ready md ops listed = [] → Q .normal a w) ∧
  ∀ i ∈ Region.ready md ops listed, wpOp P ops Q i (fun a' w' => HL m A B (listed.setIfInBounds i true) w' ∧ wpAnyL P md ops Q m A B fuel (listed.setIfInBounds i true) a' w') a w
theorem wpAny_of_L : ∀ (fuel : Nat) (listed : Array Bool) (a : Act) (w : World), wpAnyL P md ops Q m A B fuel listed a w → wpAny P md ops Q fuel listed a w
 | 0, _, _, _, h => h
 | fuel + 1, _, _, _, h => ⟨h.1, fun i hi => wpOp_mono (fun a' w' h' => wpAny_of_L fuel _ a' w' h'.2) (h.2 i hi)⟩

/-- G is so of what has come up as long as number i has not. -/
theorem wpAnyL_first {i : Nat} (him : i ≠ m) {oi : Oper} {v : Value} {T : World → Prop} (G : Array Bool → Prop) (hT : ∀ l w, G l → HL m A B l w → T w)
  (hG : ∀ l j, G l → l.getD i true = false → j ∈ Region.ready md ops l → j ≠ i → G (l.setIfInBounds j true))
  (hi : ops[i]? = some oi) (hsel : ∀ (j : Nat) (o : Oper) cs b, ops[j]? = some o → o.op ≠ .select cs b) (hQ : ∀ c a w, Q (.panic c) (a.put oi.dst v) w → Q (.panic c) a w) :
  ∀ (fuel : Nat) (listed : Array Bool) (a : Act) (w : World),
   (∀ j oj, ops[j]? = some oj → j ≠ i → listed.getD j true = false → (∀ e ∈ oj.after, Region.binds md e = true → e.on ≠ i) → oi.apart ops oj = true) →
   i ∈ Region.ready md ops listed → G listed → YieldsIf P ops T oi v a → HL m A B listed w →
   wpAnyL P md ops Q m A B fuel (listed.setIfInBounds i true) (a.put oi.dst v) w → wpAnyL P md ops Q m A B (fuel + 1) listed a w := by
 intro fuel
 induction fuel with
 | zero =>
  intro listed a w _ hr hg hy hS H
  refine ⟨fun h => (by rw [h] at hr; cases hr), fun j hj => ?_⟩
  by_cases hji : j = i
  ·subst hji; exact hy.wpOp hi (hT _ _ hg hS) ⟨hS.set him, H⟩
  ·have := ready_mono hj hji
   rw [H.1] at this
   cases this
 | succ fuel ih =>
  intro listed a w hfree hr hg hy hS H
  refine ⟨fun h => (by rw [h] at hr; cases hr), fun j hj => ?_⟩
  by_cases hji : j = i
  ·subst hji; exact hy.wpOp hi (hT _ _ hg hS) ⟨hS.set him, H⟩
  ·have h1 := H.2 j (ready_mono hj hji)
   obtain ⟨hjun, oj, hoj, hall⟩ := mem_ready.1 hj
   have hiun := (mem_ready.1 hr).1
   have hnot : ∀ e ∈ oj.after, Region.binds md e = true → e.on ≠ i := fun e he hb heq => by
    have h1 := hall e he hb
    have h0 := hiun
    rw [heq] at h1
    rcases Nat.lt_or_ge i listed.size with h' | h'
    ·simp [h'] at h0 h1; rw [h0] at h1; cases h1
    ·simp [Array.getElem?_eq_none h'] at h1
   have h2 := wpOp_putIf hoj (hfree j oj hoj hji hjun hnot) (fun cs b => hsel i oi cs b hi) (fun cs b => hsel j oj cs b hoj) hQ hy h1
   have hfree' : ∀ k ok, ops[k]? = some ok → k ≠ i → (listed.setIfInBounds j true).getD k true = false →
     (∀ e ∈ ok.after, Region.binds md e = true → e.on ≠ i) → oi.apart ops ok = true := fun k ok hk hki hun hno => by
    refine hfree k ok hk hki ?_ hno
    by_cases hjk : j = k
    ·subst hjk; exact hjun
    ·rw [getD_set_ne true hjk] at hun; exact hun
   refine wpOp_mono (fun a' w' h3 => ?_) h2
   obtain ⟨h3, h4, h5⟩ := h3
   rw [Array.setIfInBounds_comm _ _ (Ne.symm hji)] at h4
   have h6 := h4.unset him
   refine ⟨h6, ih (listed.setIfInBounds j true) a' w' hfree' (ready_mono hr (Ne.symm hji)) (hG _ _ hg hiun hj hji) h3 h6 ?_⟩
   rw [Array.setIfInBounds_comm _ _ hji]
   exact h5

/-- Take number i first: what it yields hangs on B alone. -/
theorem wpAnyL_take {i : Nat} {oi : Oper} {v : Value} {fuel : Nat} {listed : Array Bool} {a : Act} {w : World} (him : (i == m) = false) (hi' : ops.toList[i]? = some oi)
  (hs : Region.noSelect ops = true) (hf : Region.free md ops listed i = true) (hr : (Region.ready md ops listed).contains i = true)
  (hQ : ∀ c a w, Q (.panic c) (a.put oi.dst v) w → Q (.panic c) a w) (hy : YieldsIf P ops B oi v a) (hS : HL m A B listed w)
  (h : HL m A B (listed.setIfInBounds i true) w → wpAnyL P md ops Q m A B fuel (listed.setIfInBounds i true) (a.put oi.dst v) w) : wpAnyL P md ops Q m A B (fuel + 1) listed a w :=
 wpAnyL_first (by simpa using him) (fun _ => True) (fun _ _ _ h => h.2) (fun _ _ _ _ _ _ => trivial) (Array.getElem?_toList.symm.trans hi') (Region.noSelect_spec hs) hQ fuel listed a w (Region.free_spec (Array.getElem?_toList.symm.trans hi') hf) (by simpa using hr) trivial hy hS (h (hS.set (by simpa using him)))
def waitsB (md : Region.Mode) (ops : Array Oper) (m i : Nat) : Bool := match ops[m]? with
 | some o => o.after.any fun e => Region.binds md e && e.on == i
 | none => true
theorem waits_ready {i : Nat} {l : Array Bool} (hd : waitsB md ops m i = true) (hi : l.getD i true = false) : m ∉ Region.ready md ops l := fun h => by
 obtain ⟨_, o, ho, hall⟩ := mem_ready.1 h
 unfold waitsB at hd
 rw [ho] at hd
 simp only [Array.any_eq_true'] at hd
 obtain ⟨e, he, hb⟩ := hd
 rw [Bool.and_eq_true] at hb
 have h1 := hall e he hb.1
 rw [eq_of_beq hb.2] at h1
 rcases Nat.lt_or_ge i l.size with h' | h'
 ·simp [h'] at hi h1; rw [hi] at h1; cases h1
 ·simp [Array.getElem?_eq_none h'] at h1
/-- Take number i first, for which number m waits: what it yields hangs on A, too. -/
theorem wpAnyL_takeA {i : Nat} {oi : Oper} {v : Value} {fuel : Nat} {listed : Array Bool} {a : Act} {w : World} (him : (i == m) = false) (hi' : ops.toList[i]? = some oi)
  (hs : Region.noSelect ops = true) (hf : Region.free md ops listed i = true) (hr : (Region.ready md ops listed).contains i = true) (hd : waitsB md ops m i = true) (hm : listed.getD m true = false)
  (hQ : ∀ c a w, Q (.panic c) (a.put oi.dst v) w → Q (.panic c) a w) (hy : YieldsIf P ops A oi v a) (hS : HL m A B listed w)
  (h : HL m A B (listed.setIfInBounds i true) w → wpAnyL P md ops Q m A B fuel (listed.setIfInBounds i true) (a.put oi.dst v) w) : wpAnyL P md ops Q m A B (fuel + 1) listed a w :=
 wpAnyL_first (by simpa using him) (fun l => l.getD m true = false) (fun l w hg h => h.1 hg) (fun l j hg hi hj hji => by
  have hne : j ≠ m := by rintro rfl; exact waits_ready hd hi hj
  rw [getD_set_ne true hne]
  exact hg) (Array.getElem?_toList.symm.trans hi') (Region.noSelect_spec hs) hQ fuel listed a w (Region.free_spec (Array.getElem?_toList.symm.trans hi') hf) (by simpa using hr) hm hy hS (h (hS.set (by simpa using him)))

def AllReadyL (P : Program) (md : Region.Mode) (ops : Array Oper) (Q : Exit → Act → World → Prop) (m : Nat) (A B : World → Prop) (fuel : Nat) (listed : Array Bool) (a : Act) (w : World) (rs : List Nat) : Prop :=
 ∀ i ∈ rs, wpOp P ops Q i (fun a' w' => HL m A B (listed.setIfInBounds i true) w' ∧ wpAnyL P md ops Q m A B fuel (listed.setIfInBounds i true) a' w') a w
theorem AllReadyL.nil {fuel : Nat} {listed : Array Bool} {a : Act} {w : World} : AllReadyL P md ops Q m A B fuel listed a w [] := fun _ h => by cases h
theorem AllReadyL.cons {fuel : Nat} {listed : Array Bool} {a : Act} {w : World} {i : Nat} {o : Oper} {rs : List Nat} (ho' : ops.toList[i]? = some o)
  (h : ∀ K' : Act → World → Prop, Shut (∀ a w, HL m A B (listed.setIfInBounds i true) w → (HL m A B (listed.setIfInBounds i true) w → wpAnyL P md ops Q m A B fuel (listed.setIfInBounds i true) a w) → K' a w) → if Region.wanted o (yielded ops a.tmps) = true then Oper.wp P o a w K' Q else K' (a.put o.dst undef) w)
  (hs : AllReadyL P md ops Q m A B fuel listed a w rs) : AllReadyL P md ops Q m A B fuel listed a w (i :: rs) := fun j hj => by
 rcases List.mem_cons.1 hj with rfl | hj
 ·exact wpOp_step (Array.getElem?_toList.symm.trans ho') (fun K' hK => h K' (fun a w hS hW => hK a w ⟨hS, hW hS⟩))
 ·exact hs j hj
theorem wpAnyL_ready {rs : List Nat} {fuel : Nat} {listed : Array Bool} {a : Act} {w : World} (hr : Region.ready md ops listed = rs) (hne : rs ≠ [])
  (h : AllReadyL P md ops Q m A B fuel listed a w rs) : wpAnyL P md ops Q m A B (fuel + 1) listed a w := ⟨fun h0 => absurd (hr ▸ h0) hne, hr ▸ h⟩
theorem wpAnyL_done {listed : Array Bool} {a : Act} {w : World} (hr : Region.ready md ops listed = []) (h : Q .normal a w) :
  ∀ fuel, wpAnyL P md ops Q m A B fuel listed a w
 | 0 => ⟨hr, h⟩
 | _ + 1 => ⟨fun _ => h, by rw [hr]; simp⟩
theorem region_L (m : Nat) (A B : World → Prop) {id : Nat} {a : Act} {w : World} (hm : P.follows .mixedOrders = true) (hS : HL m A B (Array.replicate ops.size false) w.drew)
  (h : HL m A B (Array.replicate ops.size false) w.drew → wpAnyL P .any ops Q m A B ops.size (Array.replicate ops.size false) a w.drew) : (Code.region id ops true).wp P Q a w :=
 wp_region_any hm (wpAny_of_L _ _ _ _ (h hS))
end
end Go.Proofs.YtjccnjfdeedneaaGreat
