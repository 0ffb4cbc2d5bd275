/-
  Totals of a frame: the sums of its planes.
-/
import Derived.Test.YthoiiccecneefaaFPlane
import Derived.Test.YthoiiccecneefaaFSum
import Derived.Laws.ResultCell
namespace Go.Proofs.Ythoiiccecneefaa
open Go.RowKit
attribute [local go_sem] run_store_float

theorem results_row_tmp {P : Program} {fn : Func} {p u : Tmp} {ty : TypeId} (h : fn.results = #[.cell p ty, .tmp u]) (tmps : Array Value) (w : World) (g : Nat) (t : TypeId) (cs : Array Value) (d : TypeDesc)
    (hp : tmps.getD p undef = .pointer (some ⟨g, 0, none⟩)) {v2 : Value} (hv : tmps.getD u undef = v2) (hg : Blk w g t cs)
    (hu : P.underlying ty = some d) (hd : (match d with | .struct _ | .array _ _ => true | _ => false) = true) (hi : (P.info? ty).map (·.size) = some cs.size) :
    (results fn tmps).run P w = .ok (.tuple #[.agg cs, v2]) w := by
  subst hv
  rw [results_cell_tmp h, hp]
  simp [asAddr, run_loadVar_row (P := P) w g t ty cs (0, 0) d hg hu hd hi]

theorem cl_sumC (l : List Nat) : cl (sumC l) = sumC l := cn_sumC l
theorem Blk.set4 {w : World} {g : Nat} {t : TypeId} {c0 c1 c2 c3 : Value} (h : Blk w g t #[c0, c1, c2, c3]) (u0 u1 u2 u3 : Value) :
    Blk ((((w.setCell ⟨g, 0, none⟩ u0).setCell ⟨g, 1, none⟩ u1).setCell ⟨g, 2, none⟩ u2).setCell ⟨g, 3, none⟩ u3) g t #[u0, u1, u2, u3] := by
  simpa using (((h.set_ 0 u0).set_ 1 u1).set_ 2 u2).set_ 3 u3
theorem blk_of_row4 {w : World} {g : Nat} {t : TypeId} {f : Nat → Value} (h : w.rowIs g t 4 f) : Blk w g t #[f 0, f 1, f 2, f 3] := by
  obtain ⟨c, hb, hn, hc⟩ := h
  have e : c = #[f 0, f 1, f 2, f 3] := by
    refine Array.ext_getElem? fun i => ?_
    by_cases hi : i < 4
    · rw [hc i hi]
      have : i = 0 ∨ i = 1 ∨ i = 2 ∨ i = 3 := by omega
      rcases this with rfl | rfl | rfl | rfl <;> rfl
    · rw [Array.getElem?_eq_none (by omega), Array.getElem?_eq_none (by simp; omega)]
  unfold Blk
  rw [hb, e]
theorem row4_of_blk {w : World} {g : Nat} {t : TypeId} {f : Nat → Value} (h : Blk w g t #[f 0, f 1, f 2, f 3]) : w.rowIs g t 4 f := by
  refine ⟨_, h, rfl, fun i hi => ?_⟩
  have : i = 0 ∨ i = 1 ∨ i = 2 ∨ i = 3 := by omega
  rcases this with rfl | rfl | rfl | rfl <;> rfl

/-- The sum of a channel. -/
def totC (F : Nat → Nat) (m ch : Nat) : Nat := sumC ((List.range m).map fun j => cl (F (ch + 4 * j)))

theorem reads_of_rd {w : World} {b m : Nat} {G : Nat → Nat} (h : Rd w b 0 m G) : Reads w b 0 ((List.range m).map G) := by
  intro i hi
  rw [List.length_map, List.length_range] at hi
  rw [h i hi]
  simp

theorem below_drawn {B : Nat} {w w1 w2 : World} (h : Below B w w1) (d : Drawn w1 w2) : Below B w w2 := by
  obtain ⟨k, rfl⟩ := d.ex
  exact below_drewN h k
theorem rowIs_drawn {w w' : World} {b n : Nat} {t : TypeId} {f : Nat → Value} (h : w.rowIs b t n f) (d : Drawn w w') : w'.rowIs b t n f := by
  obtain ⟨k, rfl⟩ := d.ex
  exact h
theorem rowIs_below {w w' : World} {b n B : Nat} {t : TypeId} {f : Nat → Value} (h : w.rowIs b t n f) (hb : Below B w w') (hlt : b < B) : w'.rowIs b t n f := h.of_block (hb.block b hlt)
theorem Blk.drawn {w w' : World} {g : Nat} {t : TypeId} {cs : Array Value} (h : Blk w g t cs) (d : Drawn w w') : Blk w' g t cs := by
  obtain ⟨k, rfl⟩ := d.ex
  exact h

/-- What the loop has: the first k sums, and the boxes. -/
def TotRel (w : World) (S R : Nat) (x y a b : Int) (A : Option Addr) (n c m : Nat) (F : Nat → Nat) (k : Nat) (wr : World) : Prop :=
  wr.rowIs S 47 4 (fun j => .float .f32 (if j < k then totC F m j else 0)) ∧ Blk wr w.heap.size 26 #[.int .i64 x, .int .i64 y, .int .i64 a, .int .i64 b, .slice A n c] ∧
    (R = S ∨ Blk wr R 47 #[.float .f32 0, .float .f32 0, .float .f32 0, .float .f32 0]) ∧ Below w.heap.size w wr

def pix (f : Nat → Nat) : Value := .agg #[.float .f32 (f 0), .float .f32 (f 1), .float .f32 (f 2), .float .f32 (f 3)]
theorem pix_cells (f : Nat → Nat) : pix f = .agg #[.float .f32 (f 0), .float .f32 (f 1), .float .f32 (f 2), .float .f32 (f 3)] := rfl

theorem TotRel.step {w wr w1 : World} {S R : Nat} {x y a b : Int} {A : Option Addr} {n c m : Nat} {F : Nat → Nat} {k : Nat} {v : Value} (h : TotRel w S R x y a b A n c m F k wr) (hS : w.heap.size < S)
    (hb : Below wr.heap.size wr w1) (hv : v = .float .f32 (totC F m k)) : TotRel w S R x y a b A n c m F (k + 1) (w1.setCell ⟨S, k, none⟩ v) := by
  obtain ⟨h1, h2, h3, h4⟩ := h
  subst hv
  refine ⟨?_, ?_, ?_, ?_⟩
  · refine World.rowIs.congr ((rowIs_below h1 hb h1.lt).set k _) (fun i _ => ?_)
    by_cases hik : i = k
    · subst hik; simp
    · by_cases h : i < k
      · simp [hik, h, show i < k + 1 by omega]
      · simp [hik, h, show ¬ i < k + 1 by omega]
  · exact (h2.below hb h2.lt).far (by simp; omega) _
  · rcases h3 with h3 | h3
    · exact .inl h3
    · by_cases e : R = S
      · exact .inl e
      · exact .inr ((h3.below hb h3.lt).far (by simpa using e) _)
  · exact (h4.trans (hb.mono h4.size)).setCell (by simp; omega) _

end Go.Proofs.Ythoiiccecneefaa
