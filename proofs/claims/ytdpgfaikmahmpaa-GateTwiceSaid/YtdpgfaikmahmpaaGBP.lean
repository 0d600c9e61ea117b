
import Derived.Test.YtdpgfaikmahmpaaGAA
import Derived.Test.YtdpgfaikmahmpaaGAC
import Derived.Test.YtdpgfaikmahmpaaGAU
import Derived.Test.YtdpgfaikmahmpaaGBE
import Derived.Test.YtdpgfaikmahmpaaGBL
import Derived.Test.YtdpgfaikmahmpaaGBN
import Derived.Test.YtdpgfaikmahmpaaGBO
set_option linter.unusedSimpArgs false
set_option linter.unusedVariables false
namespace Go.Proofs.Ytdpgfaikmahmpaa
open Go.RowKit
theorem Taken_any (S : Nat) (A : Option Addr) (n c tk : Nat) (m : Int) (err miss : Int) (G : Option Addr) (gl d : Nat) (m0 m1 m2 m3 : Int) (hm : Mix4 m0 m1 m2 m3) (i0 : 0 ≤ miss) (i1 : miss ≤ 20) (w : World) (hS : Holds w S 172 #[.slice A n c, .int .i64 ((tk : Nat) : Int), .int .u32 m]) (hA : BytesAt w A n) (hn : n ≤ 9223372036854775807) (ht : tk ≤ 900000) :
  Calls Try.prog 69 #[.pointer (some ⟨S, 0, none⟩), .agg #[.int .i64 err, .int .i64 miss, .slice G gl d], .agg #[.int .i64 m0, .int .i64 m1, .int .i64 m2, .int .i64 m3]] w (TakenPost w S A n c tk miss m0 m1 m2 m3) := by
 by_cases hz : miss = 0
 ·exact Taken_zero S A n c tk m err miss G gl d m0 m1 m2 m3 hm i0 i1 hz w hS hA hn ht
 ·exact Taken_pos S A n c tk m err miss G gl d m0 m1 m2 m3 hm i0 i1 hz w hS hA hn ht
theorem grow_row {w w' w'' : World} {S : Nat} {ob : Option Nat} (h : w.grownBy w' (some S)) (hg : w'.grownBy w'' ob) (hB : ∀ k, ob = some k → w.heap.size ≤ k) : w.grownBy w'' (some S) :=
 ⟨hg.os.trans h.os, hg.tape.trans h.tape, hg.output.trans h.output, Nat.le_trans h.size hg.size, fun i hi hne => (hg.block i (Nat.lt_of_lt_of_le hi h.size) (fun e => by have := hB i e.symm; omega)).trans (h.block i hi hne)⟩
theorem Holds.row {w w' : World} {B : Nat} {t : TypeId} {cs : Array Value} {ob : Option Nat} (h : Holds w B t cs) (hg : w.grownBy w' ob) (hB : ∀ k, ob = some k → B < k) : Holds w' B t cs :=
 (hg.block B h.lt (fun e => by have := hB B e.symm; omega)).trans h
theorem row5_sack {w w' : World} {B n S : Nat} {e : TypeId} {v : Value} {xs : List Value} (h : w.ownsRow B e 5 v n xs) (hg : w.grownBy w' (some S)) (hS : S < B) : w'.ownsRow B e 5 v n xs := by
 obtain ⟨hl, h | ⟨g, cap, cur, ev, hB, hh, r⟩⟩ := h
 ·exact ⟨hl, .inl h⟩
 ·exact ⟨hl, .inr ⟨g, cap, cur, ev, hB, (hg.block g (Array.getElem?_eq_some_iff.1 hh).1 (by simp; omega)).trans hh, r⟩⟩
theorem row5_base {w : World} {B B' n : Nat} {e : TypeId} {v : Value} {xs : List Value} (h : w.ownsRow B e 5 v n xs) (hB' : B' ≤ B) : w.ownsRow B' e 5 v n xs := by
 obtain ⟨hl, h | ⟨g, cap, cur, ev, hB, hh, r⟩⟩ := h
 ·exact ⟨hl, .inl h⟩
 ·exact ⟨hl, .inr ⟨g, cap, cur, ev, Nat.le_trans hB' hB, hh, r⟩⟩
theorem OwnHands.sack {w w' : World} {B S : Nat} {v : Value} {hs : List Hf} (h : OwnHands w B v hs) (hg : w.grownBy w' (some S)) (hS : S < B) : OwnHands w' B v hs := row5_sack h hg hS
theorem OwnGrades.sack {w w' : World} {B S : Nat} {v : Value} {gs : List Gr} (h : OwnGrades w B v gs) (hg : w.grownBy w' (some S)) (hS : S < B) : OwnGrades w' B v gs := row5_sack h hg hS
theorem OwnHands.base {w : World} {B B' : Nat} {v : Value} {hs : List Hf} (h : OwnHands w B v hs) (hB : B' ≤ B) : OwnHands w B' v hs := row5_base h hB
theorem OwnGrades.base {w : World} {B B' : Nat} {v : Value} {gs : List Gr} (h : OwnGrades w B v gs) (hB : B' ≤ B) : OwnGrades w B' v gs := row5_base h hB
theorem tick_clash {w : World} {S : Nat} {t : TypeId} {v v' u u' : Value} {a b : Nat} (h : Holds w S t #[v, .int .i64 (a : Int), u]) (h' : Holds w S t #[v', .int .i64 (b : Int), u']) (hne : a ≠ b) : False := by
 have h1 := (h.cell 1).symm.trans (h'.cell 1)
 simp at h1
 omega
theorem row_over {w : World} {B b n k : Nat} {t e : TypeId} {x y sv : Value} {A : Option Addr} {c : Nat} {xs : List Value} (h : Holds w B t #[x, y, .slice A (k + 1) c]) (h' : Holds w B t #[x, y, sv]) (ho : w.ownsRow b e 5 sv n xs) (hn : n = k) : False := by
 obtain ⟨A', c', rfl, _⟩ := row5_val ho
 have h1 := (h.cell 2).symm.trans (h'.cell 2)
 simp at h1
 omega
theorem results_cells3 {fn : Func} {p q r : Tmp} {ty uy vy : TypeId} (h : fn.results = #[.cell p ty, .cell q uy, .cell r vy]) (tmps : Array Value) (P : Program) (w : World) :
  (results fn tmps).run P w =
   ((asAddr (tmps.getD p undef)).run P w).andThen fun a w₁ => ((loadVar ty a).run P w₁).andThen fun v w₂ => ((asAddr (tmps.getD q undef)).run P w₂).andThen fun b w₃ => ((loadVar uy b).run P w₃).andThen fun u w₄ =>
    ((asAddr (tmps.getD r undef)).run P w₄).andThen fun c w₅ => ((loadVar vy c).run P w₅).andThen fun x w₆ => .ok (.tuple #[v, u, x]) w₆ := by
 simp only [results, h]
 simp [Sem.run_bind, Result.andThen]
theorem ret_cells3 {P : Program} {fn : Func} {p q r : Tmp} {ty uy vy : TypeId} (h : fn.results = #[.cell p ty, .cell q uy, .cell r vy]) {a : Act} {w : World} {g g' g'' : Nat} {t t' t'' : TypeId} {cs cs' cs'' : Array Value} {d d' d'' : TypeDesc} {R : Ending → World → Prop}
  (hp : a.tmps.getD p undef = .pointer (some ⟨g, 0, none⟩)) (hg : Holds w g t cs) (hu : P.underlying ty = some d) (hd : (match d with | .struct _ | .array _ _ => true | _ => false) = true)
  (hi : (P.info? ty).map (·.size) = some cs.size)
  (hq : a.tmps.getD q undef = .pointer (some ⟨g', 0, none⟩)) (hg' : Holds w g' t' cs') (hu' : P.underlying uy = some d') (hd' : (match d' with | .struct _ | .array _ _ => true | _ => false) = true)
  (hi' : (P.info? uy).map (·.size) = some cs'.size)
  (hr : a.tmps.getD r undef = .pointer (some ⟨g'', 0, none⟩)) (hg'' : Holds w g'' t'' cs'') (hu'' : P.underlying vy = some d'') (hd'' : (match d'' with | .struct _ | .array _ _ => true | _ => false) = true)
  (hi'' : (P.info? vy).map (·.size) = some cs''.size) (hdf : a.defers = []) (hR : R (.returned (.tuple #[.agg cs, .agg cs', .agg cs''])) w) : bodyPost P fn R .ret a w :=
 bodyPost_ret (by rw [results_cells3 h, hp, hq, hr]; simp [asAddr, Result.andThen, run_loadVar_row w g t ty cs (0, 0) d hg hu hd hi, run_loadVar_row w g' t' uy cs' (0, 0) d' hg' hu' hd' hi', run_loadVar_row w g'' t'' vy cs'' (0, 0) d'' hg'' hu'' hd'' hi'']) hdf hR
def GrB (a b c d : Int) : Prop := (10 ≤ a ∧ a ≤ 38) ∧ (1 ≤ b ∧ b ≤ 14) ∧ (0 ≤ c ∧ c ≤ 8) ∧ 1 ≤ d ∧ d ≤ 14
structure GradesOk (p : Int) (gs : List Gr) : Prop where
 p0 : 0 ≤ p
 p1 : p ≤ 100
 right : ∀ g ∈ gs, g.right = true
 last : ∀ g ∈ gs, p ≤ g.price
 falls : falls gs = true
theorem GradesOk.nil {p : Int} (h0 : 0 ≤ p) (h1 : p ≤ 100) : GradesOk p [] := ⟨h0, h1, by simp, by simp, rfl⟩
theorem falls_snoc : ∀ (gs : List Gr) (g : Gr), falls gs = true → (∀ x ∈ gs, g.price ≤ x.price) → falls (gs ++ [g]) = true
 | [], g, _, _ => rfl
 | [a], g, _, h => by
  have := h a (by simp)
  simp [falls, this]
 | a :: b :: l, g, hf, h => by
  simp only [falls, Bool.and_eq_true] at hf
  have ih := falls_snoc (b :: l) g hf.2 (fun x hx => h x (List.mem_cons_of_mem _ hx))
  simp only [List.cons_append, falls, Bool.and_eq_true]
  exact ⟨hf.1, by simpa using ih⟩
theorem GradesOk.snoc {p a b c d : Int} {gs : List Gr} (h : GradesOk p gs) (hb : GrB a b c d) : GradesOk p (gs ++ [⟨a, b, c, d, p⟩]) := by
 obtain ⟨p0, p1, hr, hl, hf⟩ := h
 obtain ⟨⟨a0, a1⟩, ⟨b0, b1⟩, ⟨c0, c1⟩, d0, d1⟩ := hb
 refine ⟨p0, p1, ?_, ?_, falls_snoc _ _ hf hl⟩
 ·intro g hg
  rcases List.mem_append.1 hg with hg | hg
  ·exact hr g hg
  ·simp only [List.mem_singleton] at hg
   subst hg
   simp only [Gr.right, within, Bool.and_eq_true, decide_eq_true_eq]
   omega
 ·intro g hg
  rcases List.mem_append.1 hg with hg | hg
  ·exact hl g hg
  ·simp only [List.mem_singleton] at hg
   subst hg
   exact Int.le_refl _
theorem GradesOk.less {p q : Int} {gs : List Gr} (h : GradesOk p gs) (h0 : 0 ≤ q) (h1 : q ≤ p) : GradesOk q gs :=
 ⟨h0, Int.le_trans h1 h.p1, h.right, fun g hg => Int.le_trans h1 (h.last g hg), h.falls⟩
structure MadeOk (err miss full empty m0 m1 m2 m3 : Int) (gs : List Gr) (hs : List Hf) : Prop where
 e0 : 0 ≤ err
 e1 : err ≤ 8
 i0 : 0 ≤ miss
 i1 : miss ≤ 6
 y0 : 0 ≤ empty
 y1 : empty ≤ 899
 f0 : empty ≤ full
 f1 : full ≤ empty + 1999
 mix : Mix4 m0 m1 m2 m3
 grades : ∃ p, GradesOk p gs
 taken : ∀ h ∈ hs, TakenOk miss m0 m1 m2 m3 h
theorem MadeOk.gate {err miss full empty m0 m1 m2 m3 : Int} {gs : List Gr} {hs : List Hf} (h : MadeOk err miss full empty m0 m1 m2 m3 gs hs) (hl : gs.length ≤ 4) : gateErr err miss gs = 0 := by
 obtain ⟨e0, e1, i0, i1, _, _, _, _, _, ⟨p, hg⟩, _⟩ := h
 unfold gateErr
 have hw : (within err 0 50 && within miss 0 20 && gs.all Gr.right) = true := by
  simp only [within, Bool.and_eq_true, decide_eq_true_eq, List.all_eq_true]
  exact ⟨by omega, hg.right⟩
 rw [if_neg (by omega), hw, hg.falls]
 simp
theorem MadeOk.has {err miss full empty m0 m1 m2 m3 : Int} {gs : List Gr} {hs : List Hf} (h : MadeOk err miss full empty m0 m1 m2 m3 gs hs) : (boundsOf miss (fun _ => true) hs).has m0 m1 m2 m3 := by
 have hpos : ∀ x ∈ hs, 0 < x.sum := fun x hx => by have := (h.taken x hx).n0; omega
 rw [bounds_has hpos h.mix.sum]
 exact ⟨h.mix.any, fun k x hx _ => (h.taken x (List.mem_of_getElem? hx)).fits⟩
end Go.Proofs.Ytdpgfaikmahmpaa
