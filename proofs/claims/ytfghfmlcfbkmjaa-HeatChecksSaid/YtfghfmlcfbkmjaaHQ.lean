/- What HeatChecks walks by: own rows of bins, the store into one, clear, and comparisons. -/
import Derived.Test.YtfghfmlcfbkmjaaHO
set_option linter.unusedSimpArgs false
set_option linter.unusedVariables false
namespace Go.Proofs.Ytfghfmlcfbkmjaa
open Go.RowKit

theorem zp {p : Prop} (h : p := by (repeat first | (with_reducible assumption) | (with_reducible apply Holds.set9) | (with_reducible apply Holds.set4) | (with_reducible apply Holds.set2) | (with_reducible apply Holds.putL) | ((with_reducible refine Holds.new' _ _ ?_); (simp; done)) | (with_reducible refine Holds.alloc ?_ _) | (with_reducible refine Holds.drew ?_) | ((with_reducible refine Holds.far ?_ (by simp only [ne_eq]; omega) _)) | rfl)) : p := h
theorem zq {p : Prop} (h : p := by (repeat first | (with_reducible assumption) | (with_reducible apply Holds.set4) | (with_reducible apply Holds.set2) | (with_reducible apply Holds.putL) | ((with_reducible refine Holds.new' _ _ ?_); (simp; done)) | (with_reducible refine Holds.alloc ?_ _) | (with_reducible refine Holds.drew ?_) | ((with_reducible refine Holds.far ?_ (by simp only [ne_eq]; omega) _)) | rfl)) : p := h
theorem zg {p : Prop} (h : p := by (repeat' (first | (with_reducible exact Below.refl _ _) | (with_reducible assumption) | (with_reducible refine Below.alloc ?_ ?_ _) | (with_reducible refine Below.drew ?_) | (with_reducible refine Below.setCell ?_ ?_ _) | (with_reducible exact Nat.le_refl _) | omega | (simp only [World.size_alloc, World.size_setCell, World.size_drew]; omega) | (simp; omega) | (simp; done)))) : p := h
def OwnBins (w : World) (B : Nat) (t : TypeId) (v : Value) (bs : List Bn) : Prop := w.ownsRow B t 4 v bs.length (bs.flatMap Bn.cells)
theorem OwnBins.up {w w' : World} {B : Nat} {t : TypeId} {v : Value} {bs : List Bn} (h : OwnBins w B t v bs) (hb : Below w.heap.size w w') : OwnBins w' B t v bs := rowq_up h hb
theorem OwnBins.at_ {w : World} {B n c : Nat} {t : TypeId} {A : Option Addr} {bs : List Bn} (h : OwnBins w B t (.slice A n c) bs) : BinsAt w A bs ∧ (A = none → bs.length = 0 ∧ c = 0) := by
  obtain ⟨A', c', e, _, h2, h3⟩ := row_own Bn.len h
  cases e
  exact ⟨h3, h2⟩
theorem Holds.set9_ne {w : World} {B b : Nat} {t e : TypeId} {cs ds : Array Value} {u0 u1 u2 u3 u4 u5 u6 u7 u8 : Value} (h : Holds w B t cs) (h2 : Holds w b e ds) (ht : t ≠ e) :
    Holds (((((((((w.setCell ⟨b, 0, none⟩ u0).setCell ⟨b, 1, none⟩ u1).setCell ⟨b, 2, none⟩ u2).setCell ⟨b, 3, none⟩ u3).setCell ⟨b, 4, none⟩ u4).setCell ⟨b, 5, none⟩ u5).setCell ⟨b, 6, none⟩ u6).setCell ⟨b, 7, none⟩ u7).setCell ⟨b, 8, none⟩ u8) B t cs :=
  Holds.far9 h (holds_ne h h2 ht)
theorem own_set9 {w : World} {B b : Nat} {t e : TypeId} {v : Value} {bs : List Bn} {ds : Array Value} {u0 u1 u2 u3 u4 u5 u6 u7 u8 : Value} (h : OwnBins w B t v bs) (h2 : Holds w b e ds) (ht : t ≠ e) :
    OwnBins (((((((((w.setCell ⟨b, 0, none⟩ u0).setCell ⟨b, 1, none⟩ u1).setCell ⟨b, 2, none⟩ u2).setCell ⟨b, 3, none⟩ u3).setCell ⟨b, 4, none⟩ u4).setCell ⟨b, 5, none⟩ u5).setCell ⟨b, 6, none⟩ u6).setCell ⟨b, 7, none⟩ u7).setCell ⟨b, 8, none⟩ u8) B t v bs := by
  obtain ⟨hl, h | ⟨k, cap, cur, ev, hB, hg, r⟩⟩ := h
  · exact ⟨hl, .inl h⟩
  · have hk : Holds w k t cur := hg
    exact ⟨hl, .inr ⟨k, cap, cur, ev, hB, hk.set9_ne h2 ht, r⟩⟩
theorem own_store {w : World} {B n c k : Nat} {t : TypeId} {A : Option Addr} {bs : List Bn} {x : Bn} (p q : Int) (h : OwnBins w B t (.slice A n c) bs) (hx : bs[k]? = some x) :
    ∃ g w', A = some ⟨g, 0, none⟩ ∧ B ≤ g ∧ (storeVar 27 ⟨g, k * 4 + 2, none⟩ (.agg #[.int .i64 p, .int .i64 q])).run Try.prog w = .ok () w' ∧ BinsAt w' A (bs.set k ⟨x.warm, x.mark, p, q⟩) ∧ (∀ m, B ≤ m → False ∨ True) ∧ Below B w w' := by
  obtain ⟨i0, hi, hz0, hz1, hz2⟩ := info_parts info_span
  have hk : k < bs.length := (List.getElem?_eq_some_iff.1 hx).1
  obtain ⟨hl, ⟨e, _⟩ | ⟨g, cap, cur, ev, hB, hg, hn, _, hsz, ht⟩⟩ := h
  · cases e
    rw [flat_len Bn.cells 4 Bn.len] at hl
    omega
  · cases ev
    have hfl := flat_len Bn.cells 4 Bn.len bs
    obtain ⟨T, D, h1, h2, h3⟩ := flat_split Bn.len bs k x hx
    obtain ⟨rest, hr⟩ : ∃ rest, cur.toList = bs.flatMap Bn.cells ++ rest := ⟨_, by rw [← List.take_append_drop (bs.length * 4) cur.toList, ht]⟩
    have hcl : k * 4 + 2 + 2 ≤ cur.size := by
      have e : cur.toList.length = (bs.flatMap Bn.cells).length + rest.length := by rw [hr, List.length_append]
      rw [hfl] at e
      simp at e
      omega
    have hst := run_storeCells_at Try.prog g (k * 4 + 2) t [.int .i64 p, .int .i64 q] 0 cur w hg (by simpa using hcl) (by intro v hv; simp only [List.mem_cons, List.not_mem_nil, or_false] at hv; rcases hv with rfl | rfl <;> rfl)
    have e : (List.take (k * 4 + 2 + 0) cur.toList ++ [Value.int .i64 p, Value.int .i64 q] ++ List.drop (k * 4 + 2 + 0 + [Value.int .i64 p, Value.int .i64 q].length) cur.toList) = (bs.set k ⟨x.warm, x.mark, p, q⟩).flatMap Bn.cells ++ rest := by
      rw [h3, hr, h1, ← h2]
      have hs := splice_two (.int .i64 x.warm) (.int .i64 x.mark) (.int .i64 x.lo) (.int .i64 x.hi) (.int .i64 p) (.int .i64 q) (D ++ rest) T
      simpa [Bn.cells] using hs
    rw [e] at hst
    obtain ⟨w', hw'⟩ : ∃ z, z = w.setRow g ((bs.set k ⟨x.warm, x.mark, p, q⟩).flatMap Bn.cells ++ rest).toArray := ⟨_, rfl⟩
    rw [← hw'] at hst
    have hO : w'.heap[g]? = some (.cells ((bs.set k ⟨x.warm, x.mark, p, q⟩).flatMap Bn.cells ++ rest).toArray t (0, 0)) := hw' ▸ setRow_heap w _ _ _ _ _ hg
    refine ⟨g, w', rfl, hB, by simp [storeVar, sizeOf, typeInfo, hi, hz1, Value.cells, hst], fun _ => ⟨g, 0, rfl, fun j y hy i u hu => ?_⟩, fun _ _ => .inr trivial, hw' ▸ below_row (Below.refl B w) hB _⟩
    have hi4 : i < 4 := by have := (List.getElem?_eq_some_iff.1 hu).1; rwa [Bn.len] at this
    have hj := flat_at Bn.cells 4 Bn.len _ j i y hy hi4
    rw [hu] at hj
    have hlt := (List.getElem?_eq_some_iff.1 hj).1
    simp only [World.cell?, hO, Nat.zero_add]
    rw [List.getElem?_toArray, List.getElem?_append_left hlt]
    simpa using hj
theorem neq_span (a b : Int) (w : World) : (binOp .neq 27 (.agg #[.int .i64 a, .int .i64 b]) (.agg #[.int .i64 a, .int .i64 b])).run Try.prog w = .ok (.bool false) w := by
  rw [run_neq_struct, eqlIn_span]; rfl
theorem run_max (a b : Int) (ats : Array TypeId) (ty : TypeId) (w : World) : (Builtin.max_ ats ty #[.int .i64 a, .int .i64 b]).run Try.prog w = .ok (.int .i64 (max a b)) w := by
  have e : (if b > a then b else a) = max a b := by split <;> omega
  have h : (Builtin.max_ ats ty #[.int .i64 a, .int .i64 b]).run Try.prog w = .ok (.int .i64 (if b > a then b else a)) w := rfl
  rw [h, e]
theorem run_min (a b : Int) (ats : Array TypeId) (ty : TypeId) (w : World) : (Builtin.min_ ats ty #[.int .i64 a, .int .i64 b]).run Try.prog w = .ok (.int .i64 (min a b)) w := by
  have e : (if b < a then b else a) = min a b := by split <;> omega
  have h : (Builtin.min_ ats ty #[.int .i64 a, .int .i64 b]).run Try.prog w = .ok (.int .i64 (if b < a then b else a)) w := rfl
  rw [h, e]
theorem run_clear_nil (w : World) (ty : TypeId) : (Builtin.clear_ #[23] ty #[.slice none 0 0]).run Try.prog w = .ok (.tuple #[]) w := by
  simp [Builtin.clear_, run_underlying und_bins]
theorem zero_bin (w : World) : (zeroValue 39).run Try.prog w = .ok (.agg #[.int .i64 0, .int .i64 0, .int .i64 0, .int .i64 0]) w := by kernel_rfl
theorem run_clear_bins (w : World) (ty : TypeId) (B c : Nat) (ls : List Bn) (h : Holds w B 39 (ls.flatMap Bn.cells).toArray) (hn : 0 < ls.length) :
    ∃ w', (Builtin.clear_ #[23] ty #[.slice (some ⟨B, 0, none⟩) ls.length c]).run Try.prog w = .ok (.tuple #[]) w' ∧ w.grownBy w' (some B) := by
  have hfl := flat_len Bn.cells 4 Bn.len ls
  obtain ⟨zs, hzs⟩ : ∃ z, z = (Builtin.zeroCells (Value.agg #[.int .i64 0, .int .i64 0, .int .i64 0, .int .i64 0]).cells ls.length).toList := ⟨_, rfl⟩
  have hzl : zs.length = ls.length * 4 := by rw [hzs]; simp [Builtin.zeroCells, Value.cells, Nat.mul_comm]
  have hc : (Value.agg #[.int .i64 0, .int .i64 0, .int .i64 0, .int .i64 0]).cells = #[.int .i64 0, .int .i64 0, .int .i64 0, .int .i64 0] := rfl
  have hz1 : ∀ v ∈ zs, v.oneCell' = true := by
    intro v hv
    rw [hzs, hc] at hv
    simp only [Builtin.zeroCells, Array.toList_map] at hv
    obtain ⟨i, _, rfl⟩ := List.mem_map.1 hv
    have h5 : i % 4 < 4 := Nat.mod_lt _ (by decide)
    show ((#[Value.int .i64 0, .int .i64 0, .int .i64 0, .int .i64 0] : Array Value)[i % 4]!).oneCell' = true
    generalize i % 4 = j at h5
    match j, h5 with
    | 0, _ => rfl
    | 1, _ => rfl
    | 2, _ => rfl
    | 3, _ => rfl
  have hst := run_storeCells_at Try.prog B 0 39 zs 0 (ls.flatMap Bn.cells).toArray w h (by simp [hfl, hzl]) hz1
  obtain ⟨w', hw'⟩ : ∃ z, z = w.setRow B ((ls.flatMap Bn.cells).toArray.toList.take (0 + 0) ++ zs ++ (ls.flatMap Bn.cells).toArray.toList.drop (0 + 0 + zs.length)).toArray := ⟨_, rfl⟩
  rw [← hw'] at hst
  obtain ⟨k, hk⟩ : ∃ k, ls.length = k + 1 := ⟨ls.length - 1, by omega⟩
  refine ⟨w', ?_, by rw [hw']; exact ⟨rfl, rfl, rfl, by simp, fun j _ hne => setRow_other w B j _ (fun e => hne (by rw [e]))⟩⟩
  rw [hk] at hzs ⊢
  simp [Builtin.clear_, run_underlying und_bins, zero_bin, ← hzs, hst]
end Go.Proofs.Ytfghfmlcfbkmjaa
