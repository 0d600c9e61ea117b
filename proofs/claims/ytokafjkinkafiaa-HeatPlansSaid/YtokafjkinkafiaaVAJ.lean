import Derived.RangeFuncNested
import Derived.RangeFuncBound
import Derived.RangeFuncCalls
import Derived.RangeFuncLeaves
import Derived.OwnWalkIn
import Derived.TacticsInMore
import Derived.LoopIn
import Derived.TacticsIn
import Derived.OrdersIn
import Derived.Test.YtokafjkinkafiaaVAA
import Derived.Test.YtokafjkinkafiaaVAG
import Derived.Test.YtokafjkinkafiaaVAH
import Derived.Test.YtokafjkinkafiaaVAI
set_option linter.unusedSimpArgs false
set_option linter.unusedVariables false
namespace Go.Proofs.Ytokafjkinkafiaa
open Go.RowKit
theorem warm_get {cool r k : Int} : ∀ {p : List (List Int)} {g a : Int} {d : Nat} {l : List Int}, (g :: warmList cool r k g p)[d]? = some a → p[d]? = some l → (g :: warmList cool r k g p)[d + 1]? = some ((if l.contains k then min a cool else a) + r) := by
 intro p
 induction p with
 | nil => intro g a d l _ h; simp at h
 | cons y p ih =>
  intro g a d l ha hl
  cases d with
  | zero =>
   rw [List.getElem?_cons_zero] at ha hl
   cases ha; cases hl
   rw [warmList, List.getElem?_cons_succ, List.getElem?_cons_zero]
  | succ d =>
   rw [List.getElem?_cons_succ] at ha hl ⊢
   rw [warmList] at ha ⊢
   exact ih ha hl
theorem warm_mono {cool k : Int} : ∀ {p : List (List Int)} {g g' r r' a a' : Int} {d : Nat}, g ≤ g' → r ≤ r' → (warmList cool r k g p)[d]? = some a → (warmList cool r' k g' p)[d]? = some a' → a ≤ a' := by
 intro p
 induction p with
 | nil => intro g g' r r' a a' d _ _ h; simp [warmList] at h
 | cons y p ih =>
  intro g g' r r' a a' d hg hr ha ha'
  rw [warmList] at ha ha'
  have hn : (if y.contains k then min g cool else g) + r ≤ (if y.contains k then min g' cool else g') + r' := by split <;> omega
  cases d with
  | zero =>
   rw [List.getElem?_cons_zero] at ha ha'
   cases ha; cases ha'
   exact hn
  | succ d =>
   rw [List.getElem?_cons_succ] at ha ha'
   exact ih hn hr ha ha'
theorem rise_mono {b : Br} {bs : List Bn} (h : barnErr b bs = 0) {m m' : Nat} (hm : m ≤ m') (h6 : m' < 6) : b.rise (m : Int) ≤ b.rise (m' : Int) := by
 have hr := (barn_right h).2.2.2.2.2.1
 simp only [Br.rises, risesFrom, Bool.and_eq_true, decide_eq_true_eq] at hr
 have h1 : m = 0 ∨ m = 1 ∨ m = 2 ∨ m = 3 ∨ m = 4 ∨ m = 5 := by omega
 have h2 : m' = 0 ∨ m' = 1 ∨ m' = 2 ∨ m' = 3 ∨ m' = 4 ∨ m' = 5 := by omega
 rcases h1 with rfl | rfl | rfl | rfl | rfl | rfl <;> rcases h2 with rfl | rfl | rfl | rfl | rfl | rfl <;> first | (exfalso; omega) | (simp [Br.rise, Br.rises]; done) | (simp [Br.rise, Br.rises]; omega)
def WallAt (b : Br) (bs : List Bn) (p : List (List Int)) (d : Nat) (ws : List (Int × Int)) : Prop := ws.length = 4 ∧ ∀ (k : Nat) (x : Bn), bs[k]? = some x → ∃ s : Int × Int, ws[k]? = some s ∧ (x.warm :: warmList b.cool (b.rise x.lo) (k : Int) x.warm p)[d]? = some s.1 ∧ (x.warm :: warmList b.cool (b.rise x.hi) (k : Int) x.warm p)[d]? = some s.2
theorem wall_first {b : Br} {bs : List Bn} {p : List (List Int)} (h4 : bs.length ≤ 4) : WallAt b bs p 0 (firstOf bs bs.length) := by
 refine ⟨first_len (Nat.le_refl _) h4, fun k x hx => ⟨(x.warm, x.warm), ?_, rfl, rfl⟩⟩
 have hk := (List.getElem?_eq_some_iff.1 hx).1
 unfold firstOf
 rw [List.getElem?_append_left (by rw [List.length_map, List.length_take]; omega), List.getElem?_map, List.getElem?_take, if_pos hk, hx]
 rfl
theorem wall_next {b : Br} {bs : List Bn} {p : List (List Int)} {d : Nat} {l : List Int} {ws ws' : List (Int × Int)} (h : WallAt b bs p d ws) (hl : p[d]? = some l) (hw : WarmTo b bs l bs.length ws ws') : WallAt b bs p (d + 1) ws' := by
 refine ⟨hw.1, fun k x hx => ?_⟩
 have hk := (List.getElem?_eq_some_iff.1 hx).1
 obtain ⟨s, hs, h1, h2⟩ := h.2 k x hx
 have e := hw.2 k s hs
 rw [if_pos hk] at e
 refine ⟨_, e, ?_, ?_⟩
 ·rw [warm_get h1 hl]
  unfold warmAt coolAt
  rw [hx]
  congr 1
  dsimp only
  split <;> rfl
 ·rw [warm_get h2 hl]
  unfold warmAt coolAt
  rw [hx]
  congr 1
  dsimp only
  split <;> rfl
theorem burn_wall {b : Br} {bs : List Bn} {p : List (List Int)} {d k : Nat} {x : Bn} {ws : List (Int × Int)} {s : Int × Int} (hE : barnErr b bs = 0) (h : WallAt b bs p (d + 1) ws) (hx : bs[k]? = some x) (hs : ws[k]? = some s) : (∃ m, burnF b bs p k m d = true) ↔ x.mark < s.2 := by
 obtain ⟨lo, hi, hlo, hhi, hlo6, hhi6, -⟩ := good_bin hE hx
 have hle : lo ≤ hi := by have h := List.all_eq_true.1 (barn_right hE).2.2.2.2.2.2 x (List.mem_of_getElem? hx); simp only [Bn.inOrder, decide_eq_true_eq] at h; omega
 obtain ⟨t, ht, _, h2⟩ := h.2 k x hx
 rw [hs] at ht
 cases ht
 rw [List.getElem?_cons_succ] at h2
 constructor
 ·rintro ⟨m, hm⟩
  have hin : x.lo ≤ (m : Int) ∧ (m : Int) ≤ x.hi := by
   by_cases hc : x.lo ≤ (m : Int) ∧ (m : Int) ≤ x.hi
   ·exact hc
   ·rw [burn_off hx (by omega)] at hm; cases hm
  have hd : d < (warmList b.cool (b.rise (m : Int)) (k : Int) x.warm p).length := by
   rw [warm_len]
   by_cases hc : d < p.length
   ·exact hc
   ·rw [burn_len (by omega)] at hm; cases hm
  obtain ⟨g, hg⟩ : ∃ z, (warmList b.cool (b.rise (m : Int)) (k : Int) x.warm p)[d]? = some z := ⟨_, List.getElem?_eq_getElem hd⟩
  rw [burn_at hx hin.1 hin.2 hg] at hm
  have hm := of_decide_eq_true hm
  have := warm_mono (Int.le_refl x.warm) (rise_mono hE (m := m) (m' := hi) (by omega) hhi6) hg (by rw [hhi] at h2; exact h2)
  omega
 ·intro hlt
  refine ⟨hi, ?_⟩
  rw [burn_at hx (by omega) (by omega) (by rw [← hhi]; exact h2)]
  exact decide_eq_true hlt
def First (F : Nat → Nat → Nat → Bool) (day bin : Nat) (any : Bool) : Prop :=
 (any = false → day = 0 ∧ bin = 0 ∧ ∀ k m d, F k m d = false) ∧
 (any = true → (∃ m, F bin m day = true) ∧ ∀ k m d, F k m d = true → day < d ∨ day = d ∧ bin ≤ k)
theorem First.of {F : Nat → Nat → Nat → Bool} {n day bin : Nat} {any : Bool} (h : Best F n 0 0 day bin any) (hF : ∀ k m d, n ≤ k → F k m d = false) : First F day bin any := by
 refine ⟨fun ha => ?_, fun ha => ?_⟩
 ·obtain ⟨h1, h2, h3⟩ := h.1 ha
  refine ⟨h1, h2, fun k m d => ?_⟩
  by_cases hk : k < n
  ·exact h3 k m d (.inl hk)
  ·exact hF k m d (by omega)
 ·obtain ⟨_, h2, h3⟩ := h.2 ha
  refine ⟨h2, fun k m d ht => ?_⟩
  by_cases hk : k < n
  ·exact h3 k m d (.inl hk) ht
  ·rw [hF k m d (by omega)] at ht; cases ht
theorem First.same {F : Nat → Nat → Nat → Bool} {day bin day' bin' : Nat} {any any' : Bool} (h : First F day bin any) (h' : First F day' bin' any') : day = day' ∧ bin = bin' ∧ any = any' := by
 cases any with
 | false =>
  obtain ⟨h1, h2, h3⟩ := h.1 rfl
  cases any' with
  | false =>
   obtain ⟨k1, k2, _⟩ := h'.1 rfl
   exact ⟨by omega, by omega, rfl⟩
  | true =>
   obtain ⟨⟨m, hm⟩, _⟩ := h'.2 rfl
   rw [h3] at hm; cases hm
 | true =>
  obtain ⟨⟨m, hm⟩, h2⟩ := h.2 rfl
  cases any' with
  | false =>
   obtain ⟨_, _, k3⟩ := h'.1 rfl
   rw [k3] at hm; cases hm
  | true =>
   obtain ⟨⟨m', hm'⟩, k2⟩ := h'.2 rfl
   have a1 := h2 _ _ _ hm'
   have a2 := k2 _ _ _ hm
   exact ⟨by omega, by omega, rfl⟩
theorem burn_out {b : Br} {bs : List Bn} {p : List (List Int)} {k m d : Nat} (h : bs.length ≤ k) : burnF b bs p k m d = false := by
 unfold burnF
 rw [List.getElem?_eq_none h]
def stepOne (b : Br) (bs : List Bn) (l : List Int) (k : Nat) (s : Int × Int) : Int × Int := if k < bs.length then warmAt b bs l k s else coolAt b.cool l k s
def stepW (b : Br) (bs : List Bn) (l : List Int) (ws : List (Int × Int)) : List (Int × Int) := ws.mapIdx (stepOne b bs l)
theorem step_len (b : Br) (bs : List Bn) (l : List Int) (ws : List (Int × Int)) : (stepW b bs l ws).length = ws.length := by simp [stepW]
theorem step_of {b : Br} {bs : List Bn} {l : List Int} {ws ws' : List (Int × Int)} (h : WarmTo b bs l bs.length ws ws') (h4 : ws.length = 4) : ws' = stepW b bs l ws := by
 apply List.ext_getElem?
 intro k
 unfold stepW
 rw [List.getElem?_mapIdx]
 cases hk : ws[k]? with
 | none =>
  have := List.getElem?_eq_none_iff.1 hk
  rw [List.getElem?_eq_none (by rw [h.1]; omega)]
  rfl
 | some s => rw [h.2 k s hk]; rfl
theorem step_warm {b : Br} {bs : List Bn} {l : List Int} {ws : List (Int × Int)} (h4 : ws.length = 4) : WarmTo b bs l bs.length ws (stepW b bs l ws) := by
 refine ⟨by rw [step_len, h4], fun k s hs => ?_⟩
 unfold stepW
 rw [List.getElem?_mapIdx, hs]
 rfl
def wallsFrom (b : Br) (bs : List Bn) : Nat → List (Int × Int) → List (List Int) → List (Nat × List (Int × Int))
 | _, _, [] => []
 | d, ws, l :: p => (d, stepW b bs l ws) :: wallsFrom b bs (d + 1) (stepW b bs l ws) p
theorem walls_len (b : Br) (bs : List Bn) : ∀ (p : List (List Int)) (d : Nat) (ws : List (Int × Int)), (wallsFrom b bs d ws p).length = p.length := by
 intro p
 induction p with
 | nil => intro d ws; rfl
 | cons l p ih => intro d ws; rw [wallsFrom, List.length_cons, ih, List.length_cons]
theorem walls_step {b : Br} {bs : List Bn} {d : Nat} {ws : List (Int × Int)} {p : List (List Int)} {l : List Int} (h : p[d]? = some l) : wallsFrom b bs d ws (p.drop d) = (d, stepW b bs l ws) :: wallsFrom b bs (d + 1) (stepW b bs l ws) (p.drop (d + 1)) := by
 obtain ⟨hl, rfl⟩ := List.getElem?_eq_some_iff.1 h
 rw [List.drop_eq_getElem_cons hl, wallsFrom]
theorem walls_at {b : Br} {bs : List Bn} {P : List (List Int)} : ∀ (p : List (List Int)) (d : Nat) (ws : List (Int × Int)), P.drop d = p → WallAt b bs P d ws → ∀ (i : Nat) (y : Nat × List (Int × Int)), (wallsFrom b bs d ws p)[i]? = some y → y.1 = d + i ∧ WallAt b bs P (d + i + 1) y.2 := by
 intro p
 induction p with
 | nil => intro d ws _ _ i y h; simp [wallsFrom] at h
 | cons l p ih =>
  intro d ws hP hw i y h
  have hl : P[d]? = some l := by
   have : (P.drop d)[0]? = some l := by rw [hP]; rfl
   rwa [List.getElem?_drop, Nat.add_zero] at this
  have hn := wall_next hw hl (step_warm hw.1)
  rw [wallsFrom] at h
  cases i with
  | zero =>
   rw [List.getElem?_cons_zero] at h
   cases h
   exact ⟨rfl, hn⟩
  | succ i =>
   rw [List.getElem?_cons_succ] at h
   have hP2 : P.drop (d + 1) = p := by
    rw [← List.drop_drop, hP]; rfl
   obtain ⟨h1, h2⟩ := ih (d + 1) _ hP2 hn i y h
   exact ⟨by omega, by rw [show d + (i + 1) + 1 = d + 1 + i + 1 by omega]; exact h2⟩
theorem stepW_mild {b : Br} {bs : List Bn} {l : List Int} {ws : List (Int × Int)} {m : Int} (hE : barnErr b bs = 0) (h4 : ws.length = 4) (h : Mild m ws) : Mild (m + 20) (stepW b bs l ws) := by
 have hc : 0 ≤ b.cool := by have := (barn_right hE).2.1; simp only [within, Bool.and_eq_true, decide_eq_true_eq] at this; omega
 intro k s hs
 have hr : ∀ z : Int, 0 ≤ b.rise z ∧ b.rise z ≤ 20 := fun z => by have := riseOk_cases (rise_in (barn_right hE).2.2.2.1 z); omega
 unfold stepW at hs
 rw [List.getElem?_mapIdx] at hs
 cases hk : ws[k]? with
 | none => rw [hk] at hs; cases hs
 | some t =>
  rw [hk] at hs
  have ht := h k t hk
  have hcool : 0 ≤ (coolAt b.cool l k t).1 ∧ (coolAt b.cool l k t).1 ≤ m ∧ 0 ≤ (coolAt b.cool l k t).2 ∧ (coolAt b.cool l k t).2 ≤ m := by
   unfold coolAt
   split <;> refine ⟨?_, ?_, ?_, ?_⟩ <;> (try dsimp only) <;> omega
  simp only [Option.map_some, Option.some.injEq] at hs
  subst hs
  unfold stepOne warmAt
  split
  ·split
   ·rename_i x _
    have h1 := hr x.lo
    have h2 := hr x.hi
    refine ⟨?_, ?_, ?_, ?_⟩ <;> dsimp only <;> omega
   ·omega
  ·omega
set_option maxRecDepth 100000 in
set_option maxHeartbeats 40000000 in
theorem ends_any (b : Br) (A : Option Addr) (c n : Nat) (P : Option Addr) (q m : Nat) (w : World) :
  Calls Try.prog 71 #[.agg #[.int .i64 b.cool, .int .i64 b.gangs, .int .i64 b.r0, .int .i64 b.r1, .int .i64 b.r2, .int .i64 b.r3, .int .i64 b.r4, .int .i64 b.r5, .slice A n c], .slice P m q] w fun e w' => e = .returned (.func (.func 102) #[] #[.pointer (some ⟨w.heap.size, 0, none⟩), .pointer (some ⟨w.heap.size + 1, 0, none⟩)]) ∧ Below w.heap.size w w' ∧ Holds w' w.heap.size 25 #[.int .i64 b.cool, .int .i64 b.gangs, .int .i64 b.r0, .int .i64 b.r1, .int .i64 b.r2, .int .i64 b.r3, .int .i64 b.r4, .int .i64 b.r5, .slice A n c] ∧ Holds w' (w.heap.size + 1) 50 #[.slice P m q] := by
 go_enter Try.func71, Try.ntmps71
 go_wp2_with fail
 go_ret
 exact ⟨rfl, zg, by (repeat first | (with_reducible first | assumption | apply Holds.set4 | apply Holds.set2 | apply Holds.putL | ((refine Holds.new' _ _ ?_); (simp; done)) | refine Holds.alloc ?_ _ | refine Holds.drew ?_ | refine Holds.far ?_ (by simp only [ne_eq]; omega) _) | rfl), by (repeat first | (with_reducible first | assumption | apply Holds.set4 | apply Holds.set2 | apply Holds.putL | ((refine Holds.new' _ _ ?_); (simp; done)) | refine Holds.alloc ?_ _ | refine Holds.drew ?_ | refine Holds.far ?_ (by simp only [ne_eq]; omega) _) | rfl)⟩
def CellT (t : TypeId) (o : Obj) : Prop := ∃ cs fr, o = Obj.cells cs t fr
def OwnT {β : Type} (t : TypeId) (B : Nat) (I : β → World → Prop) : Prop :=
 ∀ s W W' row, I s W → W.grownBy W' row → (∀ r, row = some r → B ≤ r ∧ ∃ o : Obj, W.heap[r]? = some o ∧ (o.isCells = false ∨ CellT t o)) → I s W'
def AbT {β : Type} (t : TypeId) (B : Nat) (J : β → World → Prop) : Prop :=
 ∀ s W W' row, J s W → W.grownBy W' row → (∀ r, row = some r → B ≤ r ∧ ∃ o : Obj, W.heap[r]? = some o ∧ CellT t o) → J s W'
structure KeptT (t : TypeId) (p : Nat → Prop) (B : Nat) (X Y : World) : Prop where
 size : X.heap.size ≤ Y.heap.size
 same : ∀ (k : Nat) (cs : Array Value) (u : TypeId) (fr : Nat × Nat), X.heap[k]? = some (Obj.cells cs u fr) → (p k ∨ B ≤ k ∧ u = t) → Y.heap[k]? = some (Obj.cells cs u fr)
theorem KeptT.refl (t : TypeId) (p : Nat → Prop) (B : Nat) (X : World) : KeptT t p B X X := ⟨Nat.le_refl _, fun _ _ _ _ h _ => h⟩
theorem KeptT.trans {t : TypeId} {p : Nat → Prop} {B : Nat} {X Y Z : World} (h : KeptT t p B X Y) (k : KeptT t p B Y Z) : KeptT t p B X Z :=
 ⟨Nat.le_trans h.size k.size, fun i cs u fr hi hp => k.same i cs u fr (h.same i cs u fr hi hp) hp⟩
theorem KeptT.of {t : TypeId} {p : Nat → Prop} {B : Nat} {X Y : World} (h : Below X.heap.size X Y) : KeptT t p B X Y :=
 ⟨h.size, fun k _ _ _ hk _ => (h.block k (Array.getElem?_eq_some_iff.1 hk).1).trans hk⟩
theorem KeptT.turn {t : TypeId} {p : Nat → Prop} {B : Nat} {X Y : World} {row : Option Nat} (h : X.grownBy Y row) (hr : ∀ r, row = some r → ∀ cs u fr, X.heap[r]? = some (Obj.cells cs u fr) → ¬ p r ∧ (B ≤ r → u ≠ t)) : KeptT t p B X Y :=
 ⟨h.size, fun k cs u fr hk hp => (h.block k (Array.getElem?_eq_some_iff.1 hk).1 (fun e => by
  obtain ⟨h1, h2⟩ := hr k e.symm cs u fr hk
  rcases hp with hp | ⟨hp, hu⟩
  ·exact h1 hp
  ·exact h2 hp hu)).trans hk⟩
theorem KeptT.book {t : TypeId} {p : Nat → Prop} {B l : Nat} {X : World} {o : Obj} (o' : Obj) (hl : X.heap[l]? = some o) (ho : o.isCells = false) : KeptT t p B X (X.putObj l o') :=
 KeptT.turn (grownBy_putObj' X l o') (fun r e cs u fr hr => by cases e; rw [hl] at hr; cases hr; cases ho)
def SeqT {α : Type} (P : Program) (t : TypeId) (g : Nat) (lb : Array Value) (encs : α → Array Value) (p : Nat → Prop) (all : List α) (w : World) : Prop :=
 ∀ (l m : Nat) (J Jx : List α → World → Prop) (W : World), Below w.heap.size w W → AbT t W.heap.size J → AbT t W.heap.size Jx →
  (∀ pre x W1, pre ++ [x] <+: all → J pre W1 → YieldAt Fence.wide m P l (encs x) W1 fun e W' =>
   (e = .returned (.bool true) ∧ J (pre ++ [x]) W' ∧ KeptT t p w.heap.size W1 W') ∨ (e = .returned (.bool false) ∧ Jx (pre ++ [x]) W')) →
  J [] W →
  CallsIn Fence.wide (m + 1) P g (#[.func (.yield l) #[] #[]] ++ lb) W fun e W' => (∃ v, e = .returned v) ∧ (J all W' ∨ ∃ pre, pre <+: all ∧ Jx pre W')
structure Book (B : Nat) (r : Loop) (W : World) : Prop where
 loop : W.heap[B + 1]? = some (.loop r)
 defs : W.heap[B]? = some (.deferred (some []))
theorem Book.lt {B : Nat} {r : Loop} {W : World} (h : Book B r W) : B + 1 < W.heap.size := (Array.getElem?_eq_some_iff.1 h.loop).1
theorem Book.up {B : Nat} {r : Loop} {W W' : World} {row : Option Nat} (h : Book B r W) (hg : W.grownBy W' row) (hr : ∀ k, row = some k → B + 1 < k) : Book B r W' :=
 ⟨(hg.block _ h.lt (fun e => by have := hr _ e.symm; omega)).trans h.loop, (hg.block _ (by have := h.lt; omega) (fun e => by have := hr _ e.symm; omega)).trans h.defs⟩
theorem Book.put {B : Nat} {r : Loop} {W : World} (h : Book B r W) (r' : Loop) : Book B r' (W.putObj (B + 1) (.loop r')) :=
 ⟨World.putObj_heap_same h.lt, (World.putObj_heap_other (by omega)).trans h.defs⟩
theorem Book.keeps {B : Nat} {r : Loop} {W W' : World} (h : Book B r W) (hk : KeepsFrom B W W') : Book B r W' :=
 ⟨hk.same _ _ (by omega) h.loop rfl, hk.same _ _ (Nat.le_refl _) h.defs rfl⟩
theorem Book.new (w : World) (r : Loop) : Book w.heap.size r ((w.alloc (.deferred (some []))).alloc (.loop r)) := by
 refine ⟨?_, (Below.heap_alloc _ _ _ (by simp)).trans (World.alloc_heap_new w _)⟩
 have h := World.alloc_heap_new (w.alloc (.deferred (some []))) (.loop r)
 rwa [World.size_alloc] at h
theorem OwnT.put {β : Type} {t : TypeId} {B : Nat} {I : β → World → Prop} (hI : OwnT t B I) {s : β} {W : World} {r : Loop} (h : I s W) (hb : Book B r W) (r' : Loop) : I s (W.putObj (B + 1) (.loop r')) :=
 hI s W _ _ h (grownBy_putObj' W (B + 1) _) (fun k e => by cases e; exact ⟨by omega, _, hb.loop, .inl rfl⟩)
theorem range_own {α : Type} {P : Program} {g : Operand} {ps : Array Tmp} {assign body : Code} {Q : Exit → Act → World → Prop} {a : Act} {w : World} {t : TypeId} {m gf : Nat} {lb : Array Value}
  (hg : a.eval g = .func (.func gf) #[] lb) (eg : ∀ args w, (callFunc gf args).run P w = .ok (.enter gf args) w)
  {encs : α → Array Value} {p : Nat → Prop} {all : List α} (hseq : SeqT P t gf lb encs p all w) (hps : ∀ x, (encs x).size = ps.size)
  (I : List α → World → Prop) (Ix : Code → List α → World → Prop) (hI : OwnT t w.heap.size I) (hIx : ∀ c, OwnT t w.heap.size (Ix c)) (h0 : I [] w)
  (Ax : α → Act → World → Prop) (hAx : ∀ x a', OwnFrom w.heap.size (fun (_ : Unit) W => Ax x a' W))
  (hassign : ∀ (l : Nat) (pre : List α) (x : α) (W : World) (K : Act → World → Prop), pre ++ [x] <+: all → I pre W → (∀ a' W', KeepsFrom w.heap.size W W' → KeptT t p w.heap.size W W' → I pre W' → Ax x a' W' → K a' W') →
   assign.wpIn (Fence.wide.inRound l) m P (Exit.then K (fun _ _ _ => False)) { tmps := (ps.zip (encs x)).foldl (fun t (p, v) => t.setIfInBounds p v) a.tmps, defers := [] } W)
  (hbody : ∀ (l : Nat) (pre : List α) (x : α) (a' : Act) (W : World), w.heap.size ≤ l → pre ++ [x] <+: all → I pre W → Ax x a' W → body.wpIn (Fence.wide.inRound l) m P (ownPostG w.heap.size (KeptT t p w.heap.size) I Ix (pre ++ [x]) W) a' W)
  (hdone : ∀ (D : Nat) (W : World), w.heap.size ≤ D → I all W → W.heap[D]? = some (.deferred (some [])) → Q .normal { a with defers := { target := .collected D, args := #[] } :: a.defers } W)
  (hstop : ∀ (D : Nat) (c : Code) (pre : List α) (W : World), w.heap.size ≤ D → pre <+: all → Ix c pre W → W.heap[D]? = some (.deferred (some [])) → c.wpIn Fence.wide (m + 2) P Q { a with defers := { target := .collected D, args := #[] } :: a.defers } W) :
  (Code.rangeFunc g ps assign body).wpIn Fence.wide (m + 2) P Q a w := by
 refine wpIn_rangeFunc fun fn _ => ?_
 obtain ⟨R, hR⟩ : ∃ R : LoopState → Option Code → Loop, R = fun st pe => { state := st, pending := pe, fn, tmps := a.tmps, params := ps, assign, body, defers := w.heap.size } := ⟨_, rfl⟩
 obtain ⟨V, hV⟩ : ∃ V, (w.alloc (.deferred (some []))).alloc (.loop (R .ready none)) = V := ⟨_, rfl⟩
 have hbV : Book w.heap.size (R .ready none) V := by rw [← hV]; exact Book.new w _
 have hgV : ∀ {β : Type} {J : β → World → Prop} {s : β}, OwnT t w.heap.size J → J s w → J s V := fun hJ h => by
  rw [← hV]
  exact hJ _ _ _ none (hJ _ _ _ none h (World.grownBy_alloc _ _ none) (fun _ e => by cases e)) (World.grownBy_alloc _ _ none) (fun _ e => by cases e)
 have hwV : Below w.heap.size w V := by
  rw [← hV]; exact ((Below.refl _ w).alloc (Nat.le_refl _) _).alloc (by simp) _
 have hsz : V.heap.size = w.heap.size + 2 := by rw [← hV]; simp
 refine ⟨w.heap.size + 1, [{ target := .collected w.heap.size, args := #[] }], V, { target := .fn (.func gf) lb, args := #[.func (.yield (w.heap.size + 1)) #[] #[]] }, V, gf,
  #[.func (.yield (w.heap.size + 1)) #[] #[]] ++ lb, V, ?_, ?_, fun _ _ => trivial, ?_, fun _ => by omega, ?_⟩
 ·rw [← hV, hR]; exact run_enterLoop_outer _ _ _ _ _
 ·simp only [resolve, hg]; simp [go_sem]
 ·simp [invoke, go_sem, eg]
 have hrow : ∀ {X : World} {row : Option Nat}, (∀ r, row = some r → V.heap.size ≤ r ∧ ∃ o : Obj, X.heap[r]? = some o ∧ CellT t o) → (∀ r, row = some r → w.heap.size ≤ r ∧ ∃ o : Obj, X.heap[r]? = some o ∧ (o.isCells = false ∨ CellT t o)) :=
  fun h r e => by obtain ⟨h1, o, h2, h3⟩ := h r e; exact ⟨by omega, o, h2, .inr h3⟩
 have hrow' : ∀ {X : World} {row : Option Nat}, (∀ r, row = some r → V.heap.size ≤ r ∧ ∃ o : Obj, X.heap[r]? = some o ∧ CellT t o) → (∀ r, row = some r → w.heap.size + 1 < r) :=
  fun h r e => by have := (h r e).1; omega
 refine (hseq (w.heap.size + 1) m (fun pre W => I pre W ∧ Book w.heap.size (R .ready none) W) (fun pre W => ∃ c, Ix c pre W ∧ Book w.heap.size (R .done (some c)) W) V hwV
  (fun s X Y row h hg hr => ⟨hI s X Y row h.1 hg (hrow hr), h.2.up hg (hrow' hr)⟩)
  (fun s X Y row h hg hr => by obtain ⟨c, hc, hb⟩ := h; exact ⟨c, hIx c s X Y row hc hg (hrow hr), hb.up hg (hrow' hr)⟩) ?_ ⟨hgV hI h0, hbV⟩).mono ?_
 ·rintro pre x W hpre ⟨hi, hb⟩
  have hy := run_yield (P := P) (args := encs x) hb.loop (by rw [hR]; exact hps x)
  rw [hR] at hy
  refine ⟨fn, _, assign, body, hy, roundIn_of_wpIn trivial (hassign _ pre x W _ hpre hi ?_)⟩
  intro a' X hkf hkp hiX hax
  have hbX := hb.keeps hkf
  refine ⟨_, run_beginRound hbX.loop (by rw [hR]), ?_⟩
  have hbY : Book w.heap.size _ (X.putObj (w.heap.size + 1) (.loop { R .ready none with state := .busy })) := hbX.put _
  have hk1 : KeptT t p w.heap.size X (X.putObj (w.heap.size + 1) (.loop { R .ready none with state := .busy })) := KeptT.book _ hbX.loop rfl
  refine wpIn_mono (hbody (w.heap.size + 1) pre x a' _ (by omega) hpre (hI.put hiX hbX _) ((hAx x a').putObj (s := ()) _ hax (by omega) hbX.loop rfl)) ?_
  have hfin : ∀ (jump : Option Code) (Z : World), KeepsFrom w.heap.size (X.putObj (w.heap.size + 1) (.loop { R .ready none with state := .busy })) Z →
    Book w.heap.size { R .ready none with state := .busy } Z ∧ (Instr.endRound (w.heap.size + 1) jump).run P Z = .ok (.bool jump.isNone) (Z.putObj (w.heap.size + 1) (.loop (R (if jump.isNone then .ready else .done) jump))) := fun jump Z hk => by
   have hbZ := hbY.keeps hk
   have := run_endRound (P := P) jump hbZ.loop
   rw [hR] at this hbZ ⊢
   exact ⟨hbZ, this⟩
  rintro e a3 Z hp
  cases e with
  | normal =>
   obtain ⟨h1, h2, h3⟩ := hp
   obtain ⟨hbZ, hr⟩ := hfin none Z h1
   exact ⟨_, _, hr, .inl ⟨rfl, ⟨hI.put h3 hbZ _, hbZ.put _⟩, ((hkp.trans hk1).trans h2).trans (KeptT.book _ hbZ.loop rfl)⟩⟩
  | ret =>
   obtain ⟨h1, h3⟩ := hp
   obtain ⟨hbZ, hr⟩ := hfin (some .ret) Z h1
   exact ⟨_, _, hr, .inr ⟨rfl, .ret, (hIx _).put h3 hbZ _, hbZ.put _⟩⟩
  | exit id =>
   obtain ⟨h1, h3⟩ := hp
   obtain ⟨hbZ, hr⟩ := hfin (some (.exit id)) Z h1
   exact ⟨_, _, hr, .inr ⟨rfl, .exit id, (hIx _).put h3 hbZ _, hbZ.put _⟩⟩
  | goto tt =>
   obtain ⟨h1, h3⟩ := hp
   obtain ⟨hbZ, hr⟩ := hfin (some (.goto tt)) Z h1
   exact ⟨_, _, hr, .inr ⟨rfl, .goto tt, (hIx _).put h3 hbZ _, hbZ.put _⟩⟩
  | panic ch => exact hp.elim
  | outgrown => exact hp.elim
 ·rintro e Z ⟨⟨v, rfl⟩, (⟨hi, hb⟩ | ⟨pre, hSp, c, hi, hb⟩)⟩
  ·have h := run_endLoop (P := P) hb.loop (by rw [hR]; simp)
   refine ⟨_, _, h, ?_⟩
   have e : (R .ready none).pending = none := by rw [hR]
   rw [e]
   exact hdone w.heap.size _ (Nat.le_refl _) (hI.put hi hb _) (hb.put _).defs
  ·have h := run_endLoop (P := P) hb.loop (by rw [hR]; simp)
   refine ⟨_, _, h, ?_⟩
   have e : (R .done (some c)).pending = some c := by rw [hR]
   rw [e]
   exact hstop w.heap.size c pre _ (Nat.le_refl _) hSp ((hIx c).put hi hb _) (hb.put _).defs
theorem wpListIn_store_run {F : Fence} {n : Nat} {P : Program} (w : World) {ops : Array Oper} {rest : List Oper} {op : Oper} {a : Act} {Q : Exit → Act → World → Prop} (hgd : op.guard = none) (ty : TypeId) (x y : Operand) (ho : op.op = .store ty x y)
  (p : Addr) {v : Value} (hx : a.eval x = .pointer (some p)) (hy : a.eval y = v) {w' : World} (hr : (storeVar ty p v).run P w = .ok () w')
  (h : wpListIn F n P ops Q rest (a.put op.dst undef) w') : wpListIn F n P ops Q (op :: rest) a w :=
 wpListIn_plain hgd fun _ hK => by
  unfold Oper.wpIn
  refine ⟨by simp [Oper.about, ho], ?_⟩
  rw [Oper.semAt_plain F _ _ (by rw [ho]; intro c hc; cases hc)]
  unfold execOp
  simp only [ho, hx, hy, Instr.storeAt, Instr.sureAddr, Sem.run_bind, Sem.run_pure, Result.andThen_ok, hr]
  exact hK _ _ h
def Cup (w w' : World) : Prop := ∀ (k : Nat) (cs : Array Value) (u : TypeId) (fr : Nat × Nat), w.heap[k]? = some (Obj.cells cs u fr) → w'.heap[k]? = some (Obj.cells cs u fr)
theorem Cup.of {w w' : World} (h : Below w.heap.size w w') : Cup w w' := fun k _ _ _ hk => (h.block k (Array.getElem?_eq_some_iff.1 hk).1).trans hk
theorem Cup.refl (w : World) : Cup w w := fun _ _ _ _ h => h
theorem Cup.trans {a b c : World} (h : Cup a b) (k : Cup b c) : Cup a c := fun i cs u fr hi => k i cs u fr (h i cs u fr hi)
theorem Cup.kept {t : TypeId} {p : Nat → Prop} {B : Nat} {w X Y : World} (h : Cup w X) (hk : KeptT t p B X Y) (hp : ∀ k, k < w.heap.size → p k) : Cup w Y :=
 fun k cs u fr hw => hk.same k cs u fr (h k cs u fr hw) (.inl (hp k (Array.getElem?_eq_some_iff.1 hw).1))
theorem Cup.turn {w X Y : World} {row : Option Nat} (h : Cup w X) (hg : X.grownBy Y row) (hr : ∀ r, row = some r → w.heap.size ≤ r) : Cup w Y :=
 fun k cs u fr hw => (hg.block k (Array.getElem?_eq_some_iff.1 (h k cs u fr hw)).1 (fun e => by have := hr k e.symm; have := (Array.getElem?_eq_some_iff.1 hw).1; omega)).trans (h k cs u fr hw)
theorem Cup.cell {w w' : World} (h : Cup w w') {p : Addr} {v : Value} (hc : w.cell? p = some v) : w'.cell? p = some v := by
 cases hb : w.heap[p.block]? with
 | none => simp [World.cell?, hb] at hc
 | some o =>
  cases o with
  | cells cs t fr =>
   have h2 := h _ _ _ _ hb
   simp only [World.cell?, hb] at hc
   simp only [World.cell?, h2]
   exact hc
  | _ => simp [World.cell?, hb] at hc
theorem RowAt.cup {α : Type} {f : α → List Value} {q : Nat} {w w' : World} {A : Option Addr} {xs : List α} (h : RowAt f q w A xs) (hb : Cup w w') : RowAt f q w' A xs := fun hn => by
 obtain ⟨B, o, e, hc⟩ := h hn
 exact ⟨B, o, e, fun k x hx j u hj => hb.cell (hc k x hx j u hj)⟩
theorem IntsAt.cup {w w' : World} {A : Option Addr} {xs : List Int} (h : IntsAt w A xs) (hb : Cup w w') : IntsAt w' A xs := fun hn => by
 obtain ⟨B, o, e, hc⟩ := h hn
 exact ⟨B, o, e, fun k x hx => hb.cell (hc k x hx)⟩
theorem Holds.cup {w w' : World} {B : Nat} {t : TypeId} {cs : Array Value} (h : Holds w B t cs) (hb : Cup w w') : Holds w' B t cs := hb _ _ _ _ h
theorem Holds.keptT {t : TypeId} {p : Nat → Prop} {n : Nat} {X Y : World} {B : Nat} {u : TypeId} {cs : Array Value} (h : Holds X B u cs) (hk : KeptT t p n X Y) (hp : p B ∨ n ≤ B ∧ u = t) : Holds Y B u cs := hk.same _ _ _ _ h hp
theorem grow_none {X Y : World} (h : Below X.heap.size X Y) : X.grownBy Y none := ⟨h.os, h.tape, h.output, h.size, fun k hk _ => h.block k hk⟩
theorem AbT.up {β : Type} {t : TypeId} {B : Nat} {J : β → World → Prop} (h : AbT t B J) {s : β} {X Y : World} (hs : J s X) (hb : Below X.heap.size X Y) : J s Y :=
 h s X Y none hs (grow_none hb) (fun r e => by cases e)
theorem ownT_below {β : Type} (t : TypeId) {n B : Nat} {w : World} (hn : n ≤ w.heap.size) (hB : n ≤ B) : OwnT t B (fun (_ : β) W => Below n w W) :=
 fun _ _ _ _ hs hg hr => hs.grown hg (Nat.le_trans hn hs.size) (fun k e => Nat.le_trans hB (hr k e).1)
theorem ownT_holds {β : Type} (t : TypeId) {g B : Nat} {u : TypeId} {cs : Array Value} (hB : g < B) : OwnT t B (fun (_ : β) W => Holds W g u cs) :=
 fun _ _ _ _ hs hg hr => (hg.block g hs.lt (fun e => by have := (hr g e.symm).1; omega)).trans hs
theorem ownT_and {β : Type} {t : TypeId} {B : Nat} {I J : β → World → Prop} (h : OwnT t B I) (k : OwnT t B J) : OwnT t B (fun s W => I s W ∧ J s W) :=
 fun s X Y row hs hg hr => ⟨h s X Y row hs.1 hg hr, k s X Y row hs.2 hg hr⟩
theorem ownT_pure {β : Type} (t : TypeId) (B : Nat) (p : β → Prop) : OwnT t B (fun s (_ : World) => p s) := fun _ _ _ _ hs _ _ => hs
theorem leaves_no {F : Fence} {n : Nat} {P : Program} {fn : Func} {tmps : Array Value} {R : Ending → World → Prop} {v : Value} {w : World} (h1 : (results fn tmps).run P w = .ok v w) (h2 : R (.returned v) w) : LeavesInM F n P fn tmps R [] .returning w := ⟨v, h1, h2⟩
theorem leaves_one {F : Fence} {n : Nat} {P : Program} {fn : Func} {tmps : Array Value} {R : Ending → World → Prop} {v : Value} {w : World} {D : Nat} (hD : w.heap[D]? = some (.deferred (some []))) (h1 : (results fn tmps).run P (w.putObj D (.deferred none)) = .ok v (w.putObj D (.deferred none))) (h2 : R (.returned v) (w.putObj D (.deferred none))) : LeavesInM F n P fn tmps R [{ target := .collected D, args := #[] }] .returning w :=
 ⟨by simp, .inl ⟨D, _, rfl, run_takeDeferred hD, v, h1, h2⟩⟩
theorem below_shut {n D : Nat} {w w' : World} (h : Below n w w') (hn : n ≤ w.heap.size) (hD : n ≤ D) (o : Obj) : Below n w (w'.putObj D o) :=
 h.grown (grownBy_putObj' w' D o) (Nat.le_trans hn h.size) (fun k e => by cases e; exact hD)
theorem Holds.shut {w : World} {B D : Nat} {t : TypeId} {cs : Array Value} (h : Holds w B t cs) {d : _} (hD : w.heap[D]? = some (.deferred d)) (o : Obj) : Holds (w.putObj D o) B t cs :=
 (World.putObj_heap_other (fun e => by subst e; rw [show w.heap[B]? = _ from h] at hD; cases hD)).trans h
theorem KeepsFrom.of_below {B : Nat} {X Y : World} (h : Below X.heap.size X Y) : KeepsFrom B X Y := ⟨h.size, fun k o _ hk _ => (h.block k (Array.getElem?_eq_some_iff.1 hk).1).trans hk⟩
theorem KeepsFrom.set {B : Nat} {X : World} {p : Addr} (h : p.block < B) (u : Value) : KeepsFrom B X (X.setCell p u) :=
 ⟨by simp [World.setCell], fun k o hB hk _ => by rw [Below.heap_setCell X p u k (by omega)]; exact hk⟩
def plainT : TypeDesc → Bool
 | .struct _ | .array _ _ => false
 | _ => true
theorem load_one {P : Program} {w : World} {g : Nat} {t ty : TypeId} {v : Value} {d : TypeDesc} (hg : Holds w g t #[v]) (hu : P.underlying ty = some d) (hd : plainT d = true) : (loadVar ty ⟨g, 0, none⟩).run P w = .ok v w := by
 have hc : w.cell? ⟨g, 0, none⟩ = some v := hg.cell 0
 have hagg : (isAgg ty).run P w = .ok false w := by
  cases d <;> first | (simp [isAgg, underlying, hu, Sem.run_bind, Result.andThen]; done) | (simp [plainT] at hd)
 simp [loadVar, Sem.run_bind, hagg, Result.andThen, hc, go_sem]
theorem results_one3 {fn : Func} {p q r : Tmp} {ty uy vy : TypeId} (h : fn.results = #[.cell p ty, .cell q uy, .cell r vy]) {tmps : Array Value} {P : Program} {w : World} {g g' g'' : Nat} {t t' t'' : TypeId} {v v' v'' : Value} {d d' d'' : TypeDesc}
  (hp : tmps.getD p undef = .pointer (some ⟨g, 0, none⟩)) (hq : tmps.getD q undef = .pointer (some ⟨g', 0, none⟩)) (hr : tmps.getD r undef = .pointer (some ⟨g'', 0, none⟩))
  (hg : Holds w g t #[v]) (hg' : Holds w g' t' #[v']) (hg'' : Holds w g'' t'' #[v'']) (hu : P.underlying ty = some d) (hd : plainT d = true)
  (hu' : P.underlying uy = some d') (hd' : plainT d' = true) (hu'' : P.underlying vy = some d'') (hd'' : plainT d'' = true) :
  (results fn tmps).run P w = .ok (.tuple #[v, v', v'']) w := by
 rw [results_cells3 h, hp, hq, hr]
 simp [asAddr, Result.andThen, load_one hg hu hd, load_one hg' hu' hd', load_one hg'' hu'' hd'']
theorem PlanAt.cup {w w' : World} {P : Option Addr} {p : List (List Int)} (h : PlanAt w P p) (hb : Cup w w') : PlanAt w' P p := fun hn => by
 obtain ⟨B, o, e, hc⟩ := h hn
 refine ⟨B, o, e, fun d l hl => ?_⟩
 obtain ⟨A, c, h1, h2, h3⟩ := hc d l hl
 exact ⟨A, c, hb.cell h1, h2.cup hb, h3⟩
theorem BinsAt.cup {w w' : World} {A : Option Addr} {bs : List Bn} (h : BinsAt w A bs) (hb : Cup w w') : BinsAt w' A bs := RowAt.cup h hb
def yEnc (y : Nat × List (Int × Int)) : Array Value := #[.int .i64 y.1, .agg (y.2.flatMap spCells).toArray]
theorem info_warmth : (Try.prog.info? 110).map (fun i => (i.zero, i.size, i.bytes)) = some (some (.agg #[.int .i64 0, .int .i64 0, .int .i64 0, .int .i64 0, .int .i64 0, .int .i64 0, .int .i64 0, .int .i64 0]), 8, 64) := by kernel_rfl
theorem store_wall (w : World) (g : Nat) (a0 a1 a2 a3 a4 a5 a6 a7 v0 v1 v2 v3 v4 v5 v6 v7 : Value) (hg : Holds w g 110 #[a0, a1, a2, a3, a4, a5, a6, a7]) (ho : [v0, v1, v2, v3, v4, v5, v6, v7].all Value.oneCell' = true := by rfl) :
  (storeVar 110 ⟨g, 0, none⟩ (.agg #[v0, v1, v2, v3, v4, v5, v6, v7])).run Try.prog w = .ok () (w.setRow g #[v0, v1, v2, v3, v4, v5, v6, v7]) := by
 obtain ⟨i0, hi, hz0, hz1, hz2⟩ := info_parts info_warmth
 have h := run_storeCells_at Try.prog g 0 110 [v0, v1, v2, v3, v4, v5, v6, v7] 0 _ w hg (by simp) (fun v hv => List.all_eq_true.1 ho v hv)
 simp at h
 simp [storeVar, sizeOf, typeInfo, hi, hz1, Value.cells, h]
theorem wall_vals (s0 s1 s2 s3 : Int × Int) : ([s0, s1, s2, s3].flatMap spCells).toArray = #[.int .i64 s0.1, .int .i64 s0.2, .int .i64 s1.1, .int .i64 s1.2, .int .i64 s2.1, .int .i64 s2.2, .int .i64 s3.1, .int .i64 s3.2] := rfl
theorem grown_row (w : World) (g : Nat) (cs : Array Value) : w.grownBy (w.setRow g cs) (some g) := ⟨rfl, rfl, rfl, by simp [World.setRow], fun k hk hne => setRow_other w g k cs (fun e => hne (by rw [e]))⟩
theorem first_mild {b : Br} {bs : List Bn} (hE : barnErr b bs = 0) : Mild 60 (firstOf bs bs.length) := by
 intro k s hs
 unfold firstOf at hs
 rw [List.take_length] at hs
 by_cases hk : k < bs.length
 ·rw [List.getElem?_append_left (by rw [List.length_map]; exact hk), List.getElem?_map] at hs
  obtain ⟨x, hx⟩ : ∃ z, bs[k]? = some z := ⟨_, List.getElem?_eq_getElem hk⟩
  rw [hx] at hs
  cases hs
  obtain ⟨l, m, hlo, hhi, hl6, hm6, hmk0, hmk1, hw0, hw1, hc0, hc1, -⟩ := good_bin hE hx
  refine ⟨?_, ?_, ?_, ?_⟩ <;> dsimp only <;> omega
 ·rw [List.getElem?_append_right (by rw [List.length_map]; omega), List.getElem?_replicate] at hs
  split at hs
  ·cases hs; exact ⟨by decide, by decide, by decide, by decide⟩
  ·cases hs
theorem pre_next {α : Type} {all pre : List α} {x : α} {r : List α} (h : all = pre ++ x :: r) : pre ++ [x] <+: all := ⟨r, by rw [h, List.append_assoc]; rfl⟩
attribute [local go_sem] Oper.semAt_some
set_option maxRecDepth 100000 in
set_option maxHeartbeats 40000000 in
theorem ends_seq (b : Br) (A : Option Addr) (c : Nat) (bs : List Bn) (hE : barnErr b bs = 0) (P : Option Addr) (q : Nat) (p : List (List Int)) (hpl : p.length ≤ 20000) (hll : ∀ l ∈ p, l.length ≤ 1000) (hin : ∀ l ∈ p, ∀ z ∈ l, within z 0 ((bs.length : Int) - 1) = true) (w0 w : World) (hA : BinsAt w0 A bs) (hP : PlanAt w0 P p) (hb0 : Below w0.heap.size w0 w) (B1 B2 : Nat) (h1 : Holds w B1 25 #[.int .i64 b.cool, .int .i64 b.gangs, .int .i64 b.r0, .int .i64 b.r1, .int .i64 b.r2, .int .i64 b.r3, .int .i64 b.r4, .int .i64 b.r5, .slice A bs.length c]) (h2 : Holds w B2 50 #[.slice P p.length q]) (pk : Nat → Prop) (hpk : ∀ k, k < w0.heap.size → pk k) (hp1 : pk B1) (hp2 : pk B2) :
  SeqT Try.prog 110 102 #[.pointer (some ⟨B1, 0, none⟩), .pointer (some ⟨B2, 0, none⟩)] yEnc pk (wallsFrom b bs 0 (firstOf bs bs.length) p) w := by
 intro l m J Jx W hbW hJ hJx hY h0
 have hgood := barn_right hE
 have hn4 : bs.length ≤ 4 := by have := hgood.1; simp only [within, Bool.and_eq_true, decide_eq_true_eq] at this; omega
 clear hgood
 have HE := Lib.hid hE
 have HLL := Lib.hid hll
 have HIN := Lib.hid hin
 have HJ := Lib.hid hJ
 have HJX := Lib.hid hJx
 have HY := Lib.hid hY
 have H0 := Lib.hid h0
 have HPK := Lib.hid hpk
 have HP1 := Lib.hid hp1
 have HP2 := Lib.hid hp2
 have HA := Lib.hid hA
 have HP := Lib.hid hP
 have HSZ : w0.heap.size ≤ W.heap.size := Nat.le_trans hb0.size hbW.size
 have HC : Hid (Cup w0 W) := Lib.hid ((Cup.of hb0).trans (Cup.of hbW))
 have HB1 := Lib.hid (h1.up hbW)
 have HB2 := Lib.hid (h2.up hbW)
 have hq : w.heap.size ≤ W.heap.size := hbW.size
 obtain ⟨f0, f1, f2, f3, e4⟩ := four_of (first_len (Nat.le_refl bs.length) hn4)
 have HF := Lib.hid e4
 have HWL : Hid (WallAt b bs p 0 (firstOf bs bs.length)) := Lib.hid (wall_first hn4)
 have HMF : Hid (Mild 60 [f0, f1, f2, f3]) := Lib.hid (by rw [← e4]; exact first_mild hE)
 clear hE hll hin hJ hJx hY h0 hpk hp1 hp2 hA hP hb0 hbW h1 h2 e4
 have kb0 : W.cell? ⟨B1, 0, none⟩ = some (.int .i64 b.cool) := HB1.out.cell 0
 have kb1 : W.cell? ⟨B1, 1, none⟩ = some (.int .i64 b.gangs) := HB1.out.cell 1
 have kb2 : W.cell? ⟨B1, 2, none⟩ = some (.int .i64 b.r0) := HB1.out.cell 2
 have kb3 : W.cell? ⟨B1, 3, none⟩ = some (.int .i64 b.r1) := HB1.out.cell 3
 have kb4 : W.cell? ⟨B1, 4, none⟩ = some (.int .i64 b.r2) := HB1.out.cell 4
 have kb5 : W.cell? ⟨B1, 5, none⟩ = some (.int .i64 b.r3) := HB1.out.cell 5
 have kb6 : W.cell? ⟨B1, 6, none⟩ = some (.int .i64 b.r4) := HB1.out.cell 6
 have kb7 : W.cell? ⟨B1, 7, none⟩ = some (.int .i64 b.r5) := HB1.out.cell 7
 have kb8 : W.cell? ⟨B1, 8, none⟩ = some (.slice A bs.length c) := HB1.out.cell 8
 have lb := HB1.out.lt
 have kp0 : W.cell? ⟨B2, 0, none⟩ = some (.slice P p.length q) := HB2.out.cell 0
 have lp := HB2.out.lt
 refine callsIn_of_wp Try.func102 rfl trivial ?_ rfl
 simp only [Try.ntmps102, List.size_toArray, List.length_cons, List.length_nil, Nat.reduceAdd, Nat.reduceSub, Array.replicate_succ, Array.replicate_zero, List.push_toArray, List.append_toArray, List.nil_append, List.cons_append]
 gi_wp2_with (refine ⟨trivial, ?_⟩; gi_at_call 73; refine (callsIn_wide.2 (atFirst_any b A c bs _ (HA.out.cup HC.out) hn4)).mono ?_; rw [HF.out, wall_vals]; rintro e w1 ⟨rfl, hb1⟩; have HQ1 := Lib.hid hb1; have kp0' := up_cell hb1 kp0; have lp' := World.block_lt_of_cell? w1 _ kp0'; clear kb0 kb1 kb2 kb3 kb4 kb5 kb6 kb7 kb8 lb kp0 lp)
 have hq1 := HQ1.out.size
 gi_loopw [11] (fun v11 wr => ∃ (d : Nat) (s0 s1 s2 s3 : Int × Int) (pre : List (Nat × List (Int × Int))), v11 = .int .i64 (d : Int) ∧ d ≤ p.length ∧ Hid (wallsFrom b bs 0 (firstOf bs bs.length) p = pre ++ wallsFrom b bs d [s0, s1, s2, s3] (p.drop d)) ∧ Hid (Mild (60 + 20 * (d : Int)) [s0, s1, s2, s3]) ∧ Hid (J pre wr) ∧ Hid (Cup w0 wr) ∧ Hid (Holds wr B1 25 #[.int .i64 b.cool, .int .i64 b.gangs, .int .i64 b.r0, .int .i64 b.r1, .int .i64 b.r2, .int .i64 b.r3, .int .i64 b.r4, .int .i64 b.r5, .slice A bs.length c]) ∧ Hid (Holds wr B2 50 #[.slice P p.length q]) ∧ Hid (Holds wr w1.heap.size 110 #[.int .i64 s0.1, .int .i64 s0.2, .int .i64 s1.1, .int .i64 s1.2, .int .i64 s2.1, .int .i64 s2.2, .int .i64 s3.1, .int .i64 s3.2])) (fun v11 _ => p.length - (intOf v11).toNat)
 case atStart => exact ⟨0, f0, f1, f2, f3, [], rfl, Nat.zero_le _, Lib.hid (by rw [List.drop_zero, HF.out]; rfl), Lib.hid HMF.out, Lib.hid (AbT.up HJ.out H0.out (HQ1.out.trans zg)), Lib.hid (HC.out.trans (Cup.of (HQ1.out.trans zg))), Lib.hid (HB1.out.up (HQ1.out.trans zg)), Lib.hid (HB2.out.up (HQ1.out.trans zg)), Lib.hid (show Holds _ _ 110 #[.int .i64 f0.1, .int .i64 f0.2, .int .i64 f1.1, .int .i64 f1.2, .int .i64 f2.1, .int .i64 f2.2, .int .i64 f3.1, .int .i64 f3.2] from by (repeat first | (with_reducible first | assumption | apply Holds.set4 | apply Holds.set2 | apply Holds.putL | ((refine Holds.new' _ _ ?_); (simp; done)) | refine Holds.alloc ?_ _ | refine Holds.drew ?_ | refine Holds.far ?_ (by simp only [ne_eq]; omega) _) | rfl))⟩
 case round =>
  have hq1 := HQ1.out.size
  obtain ⟨d, s0, s1, s2, s3, pre, rfl, hd, HWA, HM, HJA, HCA, HBA, HPA, HOA⟩ := hrel
  by_cases hlt : d < p.length
  ·have hlt' : (d : Int) < p.length := by omega
   obtain ⟨l2, hl2⟩ : ∃ z, p[d]? = some z := ⟨_, List.getElem?_eq_getElem hlt⟩
   have hmem : l2 ∈ p := List.mem_of_getElem? hl2
   obtain ⟨Bp, op, rfl, hrow⟩ := (HP.out.cup HCA.out) (by omega)
   obtain ⟨LA, lc, kl, hI, -⟩ := hrow d l2 hl2
   have ll := World.block_lt_of_cell? wr _ kl
   have HI := Lib.hid hI
   have HL2 := Lib.hid hl2
   have HI2 := Lib.hid (HIN.out l2 hmem)
   have hlen := HLL.out l2 hmem
   clear hrow hI hl2 hmem
   have kb0 : wr.cell? ⟨B1, 0, none⟩ = some (.int .i64 b.cool) := HBA.out.cell 0
   have kb1 : wr.cell? ⟨B1, 1, none⟩ = some (.int .i64 b.gangs) := HBA.out.cell 1
   have kb2 : wr.cell? ⟨B1, 2, none⟩ = some (.int .i64 b.r0) := HBA.out.cell 2
   have kb3 : wr.cell? ⟨B1, 3, none⟩ = some (.int .i64 b.r1) := HBA.out.cell 3
   have kb4 : wr.cell? ⟨B1, 4, none⟩ = some (.int .i64 b.r2) := HBA.out.cell 4
   have kb5 : wr.cell? ⟨B1, 5, none⟩ = some (.int .i64 b.r3) := HBA.out.cell 5
   have kb6 : wr.cell? ⟨B1, 6, none⟩ = some (.int .i64 b.r4) := HBA.out.cell 6
   have kb7 : wr.cell? ⟨B1, 7, none⟩ = some (.int .i64 b.r5) := HBA.out.cell 7
   have kb8 : wr.cell? ⟨B1, 8, none⟩ = some (.slice A bs.length c) := HBA.out.cell 8
   have lb := HBA.out.lt
   obtain ⟨ko0, ko1, ko2, ko3, ko4, ko5, ko6, ko7⟩ := HOA.out.c8
   have lo := HOA.out.lt
   gi_wp2_with (first | (refine wpListIn_store_run _ rfl 110 _ _ rfl ⟨w1.heap.size, 0, none⟩ rfl rfl hrun ?_) | (refine ⟨trivial, ?_⟩; gi_at_call 103; refine (callsIn_wide.2 (warmer_any b A c bs HE.out s0 s1 s2 s3 (60 + 20 * (d : Int)) (by omega) (by omega) HM.out LA lc l2 _ (HA.out.cup HCA.out) HI.out hlen HI2.out)).mono ?_; rintro e w2 ⟨ws, rfl, hw, hb2⟩; obtain ⟨t0, t1, t2, t3, et⟩ := four_of hw.1; subst et; rw [wall_vals]; have HO2 := Lib.hid (HOA.out.up hb2); obtain ⟨w3, hw3⟩ : ∃ z, z = w2.setRow w1.heap.size #[.int .i64 t0.1, .int .i64 t0.2, .int .i64 t1.1, .int .i64 t1.2, .int .i64 t2.1, .int .i64 t2.2, .int .i64 t3.1, .int .i64 t3.2] := ⟨_, rfl⟩; have hrun := store_wall w2 w1.heap.size (.int .i64 s0.1) (.int .i64 s0.2) (.int .i64 s1.1) (.int .i64 s1.2) (.int .i64 s2.1) (.int .i64 s2.2) (.int .i64 s3.1) (.int .i64 s3.2) (.int .i64 t0.1) (.int .i64 t0.2) (.int .i64 t1.1) (.int .i64 t1.2) (.int .i64 t2.1) (.int .i64 t2.2) (.int .i64 t3.1) (.int .i64 t3.2) HO2.out; rw [← hw3] at hrun; have HO3 : Holds w3 w1.heap.size 110 #[.int .i64 t0.1, .int .i64 t0.2, .int .i64 t1.1, .int .i64 t1.2, .int .i64 t2.1, .int .i64 t2.2, .int .i64 t3.1, .int .i64 t3.2] := (by rw [hw3]; exact setRow_heap w2 _ _ _ _ _ HO2.out); have HG3 : w2.grownBy w3 (some w1.heap.size) := (by rw [hw3]; exact grown_row w2 _ _); have HS := step_of hw rfl; have HT : Hid ([t0, t1, t2, t3] = stepW b bs l2 [s0, s1, s2, s3]) := Lib.hid HS; have HW := Lib.hid hw; have HR2 := Lib.hid hb2; have HOO := Lib.hid HO3; have HGG := Lib.hid HG3; clear hw HS; have kt0 : w3.cell? ⟨w1.heap.size, 0, none⟩ = some (.int .i64 t0.1) := HOO.out.cell 0; have kt1 : w3.cell? ⟨w1.heap.size, 1, none⟩ = some (.int .i64 t0.2) := HOO.out.cell 1; have kt2 : w3.cell? ⟨w1.heap.size, 2, none⟩ = some (.int .i64 t1.1) := HOO.out.cell 2; have kt3 : w3.cell? ⟨w1.heap.size, 3, none⟩ = some (.int .i64 t1.2) := HOO.out.cell 3; have kt4 : w3.cell? ⟨w1.heap.size, 4, none⟩ = some (.int .i64 t2.1) := HOO.out.cell 4; have kt5 : w3.cell? ⟨w1.heap.size, 5, none⟩ = some (.int .i64 t2.2) := HOO.out.cell 5; have kt6 : w3.cell? ⟨w1.heap.size, 6, none⟩ = some (.int .i64 t3.1) := HOO.out.cell 6; have kt7 : w3.cell? ⟨w1.heap.size, 7, none⟩ = some (.int .i64 t3.2) := HOO.out.cell 7; have lt := HOO.out.lt; have HJ3 : J pre w3 := HJ.out _ _ _ _ (AbT.up HJ.out HJA.out HR2.out) HGG.out (fun r e => (by cases e; exact ⟨hq1, _, HO2.out, _, _, rfl⟩)); have HNX : wallsFrom b bs 0 (firstOf bs bs.length) p = pre ++ (d, [t0, t1, t2, t3]) :: wallsFrom b bs (d + 1) [t0, t1, t2, t3] (p.drop (d + 1)) := (by rw [HWA.out, walls_step HL2.out, ← HT.out]); obtain ⟨fn, tmps, assign, body, hy, hR⟩ := HY.out pre (d, [t0, t1, t2, t3]) w3 (pre_next HNX) HJ3; have HN := Lib.hid HNX; clear HNX HJ3 HO3 HG3 hb2 hw3; simp only [yEnc, wall_vals] at hy) | (refine hR.mono ?_; clear hR; rintro e w4 (⟨rfl, hj4, hk4⟩ | ⟨rfl, hx4⟩)))
   ·have HC3 : Cup w0 w3 := (HCA.out.trans (Cup.of HR2.out)).turn HGG.out (fun r e => by cases e; exact Nat.le_trans HSZ HQ1.out.size)
    have hn1 : B1 ≠ w1.heap.size := by have h := HB1.out.lt; have := HQ1.out.size; omega
    have hn2 : B2 ≠ w1.heap.size := by have h := HB2.out.lt; have := HQ1.out.size; omega
    have H13 := (HBA.out.up HR2.out).grown HGG.out hn1
    have H23 := (HPA.out.up HR2.out).grown HGG.out hn2
    have HM3 : Mild (60 + 20 * ((d + 1 : Nat) : Int)) [t0, t1, t2, t3] := by have h := stepW_mild (l := l2) HE.out rfl HM.out; rw [← HT.out] at h; rw [show (60 : Int) + 20 * ((d + 1 : Nat) : Int) = 60 + 20 * (d : Int) + 20 from by omega]; exact h
    have HX13 := Lib.hid (H13.keptT hk4 (.inl HP1.out))
    have HX23 := Lib.hid (H23.keptT hk4 (.inl HP2.out))
    have HXO := Lib.hid (HOO.out.keptT hk4 (.inr ⟨Nat.le_trans hq HQ1.out.size, rfl⟩))
    have HXC := Lib.hid (HC3.kept hk4 HPK.out)
    have HXJ := Lib.hid hj4
    have HXM := Lib.hid HM3
    clear HC3 H13 H23 HM3 hk4 hj4
    have HXN : Hid (wallsFrom b bs 0 (firstOf bs bs.length) p = (pre ++ [(d, [t0, t1, t2, t3])]) ++ wallsFrom b bs (d + 1) [t0, t1, t2, t3] (p.drop (d + 1))) := Lib.hid (by rw [HN.out, List.append_assoc]; rfl)
    gi_wp2_with fail
    go_roundw
    case rel => exact ⟨d + 1, t0, t1, t2, t3, pre ++ [(d, [t0, t1, t2, t3])], by go_num, hlt, HXN, HXM, HXJ, HXC, HX13, HX23, HXO⟩
    case measure => first | (simp [intOf]; done) | (simp [intOf]; omega)
   ·gi_wp2_with fail
    exact bodyPost_ret (results_none rfl _ _ _) rfl ⟨⟨_, rfl⟩, .inr ⟨_, pre_next HN.out, hx4⟩⟩
  ·have hlt' : ¬ (d : Int) < p.length := by omega
   have HEND : Hid (pre = wallsFrom b bs 0 (firstOf bs bs.length) p) := Lib.hid (by rw [HWA.out, List.drop_of_length_le (by omega)]; simp [wallsFrom])
   gi_wp2_with fail
   exact bodyPost_end (results_none rfl _ _ _) rfl ⟨⟨_, rfl⟩, .inl (by rw [← HEND.out]; exact HJA.out)⟩
section
variable {F : Fence} {nF : Nat} {P : Program} {ops : Array Oper} {Q : Exit → Act → World → Prop}
theorem wp_of_listIn {o : Oper} {a : Act} {w : World} {K : Act → World → Prop} {ops' : Array Oper} (hg : o.guard = none) (h : wpListIn F nF P ops' (Thence Q K) [o] a w) : o.wpIn F nF P a w K Q := by
 unfold wpListIn at h
 rw [if_pos (by simp [Region.wanted, hg])] at h
 unfold Oper.wpIn at h ⊢
 refine ⟨h.1, ?_⟩
 have h := h.2
 generalize (o.semAt F.round a.eval).run P w = r at *
 cases r with
 | ok x w' =>
  cases x <;> simp only [Oper.uponIn] at h ⊢ <;>
   first
    | exact h
    | exact ⟨h.1, CallsIn.mono h.2 (fun e w'' he => by cases e <;> first | exact he | (obtain ⟨a', w', h2⟩ := he; exact ⟨a', w', h2⟩))⟩
    | exact ⟨h.1, RowsIn.mono h.2 (fun _ _ he => he)⟩
    | exact ⟨h.1, RoundIn.mono h.2 (fun e w'' he => by cases e <;> first | exact he | (obtain ⟨a', w', h2⟩ := he; exact ⟨a', w', h2⟩))⟩
 | halt x w' => cases x <;> simp only [Oper.uponIn] at h ⊢ <;> exact h
theorem wp_region_partsGI {id : Nat} {a0 : Act} {w0 : World} (hm : P.follows .mixedOrders = true) (ds : List (Option Nat)) (V : Nat → (Nat → Value) → World → Prop) (uses : List (List Nat)) (dead : List (Nat × Nat)) (Base : World → Prop)
  (hok : partsOkG ops ds uses dead a0.tmps.size = true)
  (hx : ∀ j x x' w, (∀ t ∈ uses.getD j [], x t = x' t) → V j x w → V j x' w)
  (hV : ∀ j x w w', Below w.heap.size w w' → V j x w → V j x w')
  (hB : ∀ w w', Below w.heap.size w w' → Base w → Base w') (h0 : Base w0) (h00 : ∀ j, ops.size ≤ j → V j (fun t => a0.tmps.getD t undef) w0)
  (hstep : Each (fun i o => ∀ (x : Nat → Value) (w : World), Base w → (∀ j, (waits o j || decide (ops.size ≤ j)) = true → safe ops dead i j = true → V j x w) →
   ∀ K : Act → World → Prop, (∀ v w', (Below w.heap.size w w' ∨ Base w' ∧ ∀ j x, dead.contains (i, j) = false → j ≠ i → V j x w → V j x w') → V i (setSlot x (ds.getD i none) v) w' → K (frameOf (slotsOf ds) (setSlot x (ds.getD i none) v) a0) w') →
    wpListIn F nF P ops (Thence Q K) [o] (frameOf (slotsOf ds) x a0) w) 0 ops.toList)
  (hend : ∀ (x : Nat → Value) (w : World), Base w → (∀ j, (∀ i, i < ops.size → dead.contains (i, j) = false) → V j x w) → Q .normal (frameOf (slotsOf ds) x a0) w) :
  (Code.region id ops true).wpIn F nF P Q a0 w0 := by
 simp only [partsOkG, Bool.and_eq_true, decide_eq_true_eq, beq_iff_eq, List.all_eq_true, List.mem_range, Bool.or_eq_true] at hok
 obtain ⟨⟨⟨⟨⟨⟨hdst, hnd⟩, hlt⟩, hgd⟩, hord⟩, huse⟩, huse0⟩ := hok
 have hget : ∀ i, i < ops.size → ∃ o, ops[i]? = some o ∧ ops.toList[i]? = some o ∧ o.guard = none ∧ o.dst = ds.getD i none := by
  intro i hi
  refine ⟨ops[i], by simp [hi], by simp [hi], ?_, ?_⟩
  ·have := hgd (ops[i]) (List.mem_of_getElem? (i := i) (by simp [hi]))
   simpa using this
  ·rw [← hdst]
   simp [List.getD, hi]
 have hordr : ∀ (listed : Array Bool), listed.size = ops.size → Region.ready .any ops listed = [] → ∀ i, i < ops.size → listed.getD i false = true := by
  intro listed hsz hr i
  induction i using Nat.strongRecOn with
  | ind i ih =>
   intro hi
   cases hl : listed.getD i false with
   | true => rfl
   | false =>
    exfalso
    have : i ∈ Region.ready .any ops listed := by
     simp only [Region.ready, List.mem_filter, List.mem_range, Bool.and_eq_true, Bool.not_eq_true']
     refine ⟨hi, by rw [getD_tf (by omega) true false]; exact hl, ?_⟩
     have ho : ops[i]? = some ops[i] := by simp [hi]
     have hb := hord i hi
     rw [ho] at hb ⊢
     simp only [Option.map_some, Option.getD_some, Array.all_eq_true_iff_forall_mem] at hb ⊢
     intro e he
     cases hbd : Region.binds .any e with
     | false => simp
     | true =>
      have h1 : e.on < i := by simpa [hbd] using hb e he
      simp [ih e.on h1 (by omega)]
    rw [hr] at this
    cases this
 have fin : ∀ (listed : Array Bool) (a : Act) (w : World), OnTheWayG ops ds V dead Base a0 listed a w → Region.ready .any ops listed = [] → Q .normal a w := by
  rintro listed a w ⟨hsz, _, hb, x, rfl, hx'⟩ hr
  have hall := hordr listed hsz hr
  exact hend x w hb (fun j hd => hx' j (fun hj => hall j hj) (fun i hi _ => hd i hi))
 have main : ∀ (fuel : Nat) (listed : Array Bool) (a : Act) (w : World), listed.toList.countP (fun b => !b) ≤ fuel → OnTheWayG ops ds V dead Base a0 listed a w → wpAnyIn F nF P .any ops Q fuel listed a w := by
  intro fuel
  induction fuel with
  | zero =>
   intro listed a w hfuel hway
   have hr : Region.ready .any ops listed = [] := by
    rw [List.eq_nil_iff_forall_not_mem]
    intro i hi
    obtain ⟨h1, h2, _⟩ := ready_spec hi
    have h0 : listed.toList.countP (fun b => !b) = 0 := by omega
    rw [List.countP_eq_zero] at h0
    have hsz := hway.1
    have : listed[i]'(by omega) = true := by
     have := h0 (listed[i]'(by omega)) (by simp)
     simpa using this
    simp [Array.getD, show i < listed.size from by omega, this] at h2
   exact ⟨hr, fin listed a w hway hr⟩
  | succ fuel ih =>
   intro listed a w hfuel hway
   refine ⟨fin listed a w hway, fun i hi => ?_⟩
   obtain ⟨h1, h2, h3⟩ := ready_spec hi
   have hsz := hway.1
   have his : i < listed.size := by omega
   have hfl : listed[i] = false := by simpa [Array.getD, his] using h2
   have hcount : (listed.setIfInBounds i true).toList.countP (fun b => !b) ≤ fuel := by
    have hli : listed.toList[i]'(by simpa using his) = false := by simpa using hfl
    have hpos : 0 < listed.toList.countP (fun b => !b) := List.countP_pos_iff.2 ⟨false, List.mem_of_getElem? (i := i) (by simp [his, hfl]), rfl⟩
    rw [Array.toList_setIfInBounds, List.countP_set (by simpa using his), hli]
    simp only [Bool.not_false, Bool.not_true, if_true, Bool.false_eq_true, if_false]
    omega
   have hsz' : (listed.setIfInBounds i true).size = ops.size := by simp [hsz]
   have hnew : ∀ j, (listed.setIfInBounds i true).getD j false = if j = i then true else listed.getD j false := by
    intro j
    by_cases hj : j < listed.size
    ·by_cases hji : j = i
     ·subst hji; simp [Array.getD, hj]
     ·simp [Array.getD, hj, hji, Array.getElem_setIfInBounds, Ne.symm hji]
    ·have : j ≠ i := by omega
     simp [Array.getD, hj, this]
   obtain ⟨_, hcl, hb, x, rfl, hx'⟩ := hway
   have hli : listed.getD i false = false := by rw [getD_tf his false true]; exact h2
   have hcl' : ∀ k o, ops[k]? = some o → (listed.setIfInBounds i true).getD k false = true → ∀ e ∈ o.after, Region.binds .any e = true → (listed.setIfInBounds i true).getD e.on false = true := by
    intro k o hk hl e he hb
    rw [hnew] at hl ⊢
    by_cases hei : e.on = i
    ·rw [if_pos hei]
    ·rw [if_neg hei]
     by_cases hki : k = i
     ·subst hki; exact h3 o hk e he hb
     ·rw [if_neg hki] at hl; exact hcl k o hk hl e he hb
   obtain ⟨o, ho1, ho2, hg, hd⟩ := hget i h1
   have hst := Each.at_ _ 0 i o hstep ho2
   simp only [Nat.zero_add] at hst
   unfold wpOpIn
   rw [ho1]
   simp only [Region.wanted, hg, if_true]
   have hseen : ∀ j, (waits o j || decide (ops.size ≤ j)) = true → safe ops dead i j = true → V j x w := by
    intro j hj hsafe
    simp only [safe, List.all_eq_true, Bool.or_eq_true, Bool.not_eq_true', beq_eq_false_iff_ne, beq_iff_eq] at hsafe
    have hlj : j < ops.size → listed.getD j false = true := by
     intro hjs
     rw [Bool.or_eq_true] at hj
     rcases hj with hj | hj
     ·simp only [waits, List.any_eq_true, Bool.and_eq_true, beq_iff_eq] at hj
      obtain ⟨e, he, hbd, rfl⟩ := hj
      exact h3 o ho1 e (by simpa using he) hbd
     ·exact absurd hjs (by simpa using hj)
    refine hx' j hlj (fun k hk hlk => ?_)
    cases hdd : dead.contains (k, j) with
    | false => rfl
    | true =>
     exfalso
     have hmem : (k, j) ∈ dead := by simpa using hdd
     rcases hsafe _ hmem with (h | h) | h
     ·exact h rfl
     ·simp only at h; subst h; rw [hli] at hlk; cases hlk
     ·have := reach_spec hcl 6 k i (fun o' ho' e' he' hb' => hcl k o' ho' hlk e' he' hb') h
      rw [hli] at this
      cases this
   have hds : ∀ t, ds.getD i none = some t → t ∈ slotsOf ds := by
    intro t ht
    refine List.mem_filterMap.2 ⟨some t, ?_, rfl⟩
    rw [List.getD_eq_getElem?_getD] at ht
    cases hq : ds[i]? with
    | none => rw [hq] at ht; cases ht
    | some u => rw [hq] at ht; simp at ht; subst ht; exact List.mem_of_getElem? hq
   refine wp_of_listIn (ops' := ops) hg (hst x w hb hseen _ (fun v w' hor hv => ?_))
   rw [← frame_putG (slotsOf ds) x a0 (ds.getD i none) v hds]
   rw [frame_putG (slotsOf ds) x a0 (ds.getD i none) v hds]
   have hkeep : Base w' ∧ ∀ j x, dead.contains (i, j) = false → j ≠ i → V j x w → V j x w' := by
    rcases hor with h | h
    ·exact ⟨hB _ _ h hb, fun j x _ _ hv => hV j x w w' h hv⟩
    ·exact h
   refine ih _ _ w' hcount ⟨hsz', hcl', hkeep.1, _, rfl, fun j hlj hdj => ?_⟩
   by_cases hji : j = i
   ·subst hji; exact hv
   ·have hlj' : j < ops.size → listed.getD j false = true := fun hj => by
     have := hlj hj
     rwa [hnew, if_neg hji] at this
    have hold := hx' j hlj' (fun k hk hlk => hdj k hk (by rw [hnew]; split; rfl; exact hlk))
    have hdi := hdj i h1 (by rw [hnew]; simp)
    refine hx j x _ w' (fun t ht => ?_) (hkeep.2 j x hdi hji hold)
    cases hdi' : ds.getD i none with
    | none => rfl
    | some d =>
     simp only [setSlot]
     by_cases htd : t = d
     ·subst htd
      exfalso
      by_cases hj : j < ops.size
      ·rcases huse j hj t ht i h1 with (h | h) | h
       ·exact hji h.symm
       ·rw [hdi'] at h; simp at h
       ·have := reach_spec hcl 6 j i (fun o' ho' e' he' hb' => hcl j o' ho' (hlj' hj) e' he' hb') h
        rw [hli] at this
        cases this
      ·have hjl : j < uses.length := by
        rcases Nat.lt_or_ge j uses.length with h | h
        ·exact h
        ·rw [List.getD_eq_getElem?_getD, List.getElem?_eq_none h] at ht; cases ht
       rcases huse0 j hjl with h | h
       ·exact hj h
       ·rcases h t ht i h1 with h | h
        ·rw [hdi'] at h; simp at h
        ·rw [h] at hdi; cases hdi
     ·rw [if_neg htd]
 refine wpIn_region_any hm (main ops.size _ a0 _ ?_ ⟨by simp, fun i o _ hl => absurd hl (by simp [Array.getD]), hB _ _ ((Below.refl _ w0).drew) h0, _, (frame_self (slotsOf ds) a0).symm, fun j hl _ => ?_⟩)
 ·have := List.countP_le_length (p := fun b => !b) (l := (Array.replicate ops.size false).toList)
  simpa using this
 ·rcases Nat.lt_or_ge j ops.size with h | h
  ·have := hl h
   simp [Array.getD] at this
  ·exact hV _ _ _ _ ((Below.refl _ w0).drew) (h00 j h)
end
end Go.Proofs.Ytokafjkinkafiaa
