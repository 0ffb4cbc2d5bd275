/-
  Rows of singles that are built by append; loads under another name.
-/
import Derived.Test.YtfeabmdioeelhaaYCvo
import Derived.Deep.RegionHeld3
namespace Go.Proofs.Ytfeabmdioeelhaa
open Go.RowKit Go.Shelf
attribute [local go_sem] run_store_float

/-- The cells of a row of singles. -/
def rowL (G : Nat → Nat) (k : Nat) : List Value := (List.range k).map fun j => .float .f32 (G j)
theorem rowL_length (G : Nat → Nat) (k : Nat) : (rowL G k).length = k := by simp [rowL]
theorem rowL_succ (G : Nat → Nat) (k : Nat) : rowL G (k + 1) = rowL G k ++ [.float .f32 (G k)] := by simp [rowL, List.range_succ]
theorem rowL_get (G : Nat → Nat) (k i : Nat) (h : i < k) : (rowL G k)[i]? = some (.float .f32 (G i)) := by simp [rowL, h]

theorem Blk.grown {w w' : World} {g : Nat} {t : TypeId} {cs : Array Value} {row : Option Nat} (h : Blk w g t cs) (hb : w.grownBy w' row) (hg : some g ≠ row) : Blk w' g t cs := (hb.block g h.lt hg).trans h

/-- A new slice of singles that reads as G. -/
def Planed (w : World) (m : Nat) (G : Nat → Nat) (e : Ending) (w' : World) : Prop :=
  ∃ b c, e = .returned (.slice (some ⟨b, 0, none⟩) m c) ∧ m ≤ c ∧ c ≤ maxLen ∧ w.heap.size ≤ b ∧ b < w'.heap.size ∧ Rd w' b 0 m G ∧ Below w.heap.size w w'

theorem Planed.of_own {w w' : World} {base : Nat} {v : Value} {m : Nat} {G : Nat → Nat} (hm : 0 < m) (hbase : w.heap.size ≤ base) (h : w'.ownsRow base 22 1 v m (rowL G m)) (hb : Below w.heap.size w w') : Planed w m G (.returned v) w' := by
  rcases h.2 with ⟨rfl, hx⟩ | ⟨g, cap, cur, rfl, hbg, hg, hnc, hcm, hcs, htake⟩
  · exfalso
    have := rowL_length G m
    rw [hx] at this
    simp at this
    omega
  · refine ⟨g, cap, rfl, hnc, hcm, by omega, (Array.getElem?_eq_some_iff.1 hg).1, ?_, hb⟩
    intro i hi
    rw [Nat.zero_add, h.cellAt i (by omega), rowL_get G m i hi]

/-- A round of an append of one single. -/
theorem own_step {w1 : World} {base k : Nat} {G : Nat → Nat} {v' : Value} (h : w1.ownsRow base 22 1 v' (k + 1) (rowL G k ++ [.float .f32 (G k)])) : w1.ownsRow base 22 1 v' (k + 1) (rowL G (k + 1)) := by
  rw [rowL_succ]; exact h
theorem below_grown {B base : Nat} {a wr w1 : World} {v : Value} {e : TypeId} {size n : Nat} {xs : List Value} {o : Obj} (hb : Below B a wr) (hB : B ≤ wr.heap.size) (hbase : B ≤ base) (hown : wr.ownsRow base e size v n xs) (hg : (wr.alloc o).grownBy w1 v.ownBlock) : Below B a w1 :=
  (hb.alloc hB o).grown hg (by simp; omega) fun k hk => Nat.le_trans hbase (hown.lt k hk).1
theorem blk_grown {base g : Nat} {wr w1 : World} {v : Value} {e t : TypeId} {cs : Array Value} {size n : Nat} {xs : List Value} {o : Obj} (h : Blk wr g t cs) (hgb : g < base) (hown : wr.ownsRow base e size v n xs) (hg : (wr.alloc o).grownBy w1 v.ownBlock) : Blk w1 g t cs :=
  (h.alloc o).grown hg fun e => by have := (hown.lt g e.symm).1; omega

theorem own_below {wr w1 : World} {v : Value} {base : Nat} {e : TypeId} {size n : Nat} {xs : List Value} (h : wr.ownsRow base e size v n xs) (hb : Below wr.heap.size wr w1) : w1.ownsRow base e size v n xs := by
  refine h.kept (row := none) ⟨hb.os, hb.tape, hb.output, hb.size, fun i hi _ => hb.block i hi⟩ ?_
  cases hv : v.ownBlock with
  | none => exact .inl rfl
  | some g => exact .inr (by simp)
/-- A frame stored whole elsewhere leaves what reads as F. -/
theorem Rd.far5 {w : World} {b off n : Nat} {F : Nat → Nat} (h : Rd w b off n F) {g : Nat} (hg : b ≠ g) (u0 u1 u2 u3 u4 : Value) :
    Rd (((((w.setCell ⟨g, 0, none⟩ u0).setCell ⟨g, 1, none⟩ u1).setCell ⟨g, 2, none⟩ u2).setCell ⟨g, 3, none⟩ u3).setCell ⟨g, 4, none⟩ u4) b off n F := by
  intro i hi
  have e : ∀ (w : World) (o : Nat) (u : Value), (w.setCell ⟨g, o, none⟩ u).cell? ⟨b, off + i, none⟩ = w.cell? ⟨b, off + i, none⟩ := fun w o u =>
    World.cell?_setCell_other w ⟨g, o, none⟩ ⟨b, off + i, none⟩ u (fun e => hg (by injection e with e1; exact e1.symm))
  rw [e, e, e, e, e]
  exact h i hi
theorem below_set5 {B : Nat} {a w : World} (h : Below B a w) {g : Nat} (hg : B ≤ g) (u0 u1 u2 u3 u4 : Value) :
    Below B a (((((w.setCell ⟨g, 0, none⟩ u0).setCell ⟨g, 1, none⟩ u1).setCell ⟨g, 2, none⟩ u2).setCell ⟨g, 3, none⟩ u3).setCell ⟨g, 4, none⟩ u4) :=
  ((((h.setCell (p := ⟨g, 0, none⟩) hg u0).setCell (p := ⟨g, 1, none⟩) hg u1).setCell (p := ⟨g, 2, none⟩) hg u2).setCell (p := ⟨g, 3, none⟩) hg u3).setCell (p := ⟨g, 4, none⟩) hg u4
theorem size_set5 (w : World) (g : Nat) (u0 u1 u2 u3 u4 : Value) :
    (((((w.setCell ⟨g, 0, none⟩ u0).setCell ⟨g, 1, none⟩ u1).setCell ⟨g, 2, none⟩ u2).setCell ⟨g, 3, none⟩ u3).setCell ⟨g, 4, none⟩ u4).heap.size = w.heap.size := by simp [World.setCell]

/-- A load under another name: no load for the walk of a region, which then branches over it without a word. -/
def ldOp (t : TypeId) (x : Operand) : Op := Op.load t x
@[go_sem] theorem ldOp_eq (t : TypeId) (x : Operand) : ldOp t x = Op.load t x := rfl

theorem far_cell {w2 : World} {b j gb o : Nat} {u : Value} (h : w2.cell? ⟨b, j, none⟩ = some u) (hne : b ≠ gb) (v : Value) : (w2.setCell ⟨gb, o, none⟩ v).cell? ⟨b, j, none⟩ = some u := by
  rw [World.cell?_setCell_other w2 ⟨gb, o, none⟩ ⟨b, j, none⟩ v (fun e => hne (by injection e with e1; exact e1.symm))]
  exact h
theorem grown_cell {wr w2 : World} {o : Obj} {v : Value} (hg : (wr.alloc o).grownBy w2 v.ownBlock) {b : Nat} (hb : b < wr.heap.size) (hne : ∀ k, v.ownBlock = some k → b ≠ k) (j : Nat) {u : Value} (h : wr.cell? ⟨b, j, none⟩ = some u) : w2.cell? ⟨b, j, none⟩ = some u := by
  have e := hg.block b (by simp; omega) (fun e => hne b e.symm rfl)
  rw [World.cell?_of_block (w := wr) (w' := w2) (a := ⟨b, j, none⟩) (e.trans (Below.heap_alloc wr o b hb))]
  exact h


theorem Blk.ne_ {w : World} {g g' : Nat} {t t' : TypeId} {cs cs' : Array Value} {fz : Nat × Nat} (h : w.heap[g']? = some (.cells cs' t' fz)) (h' : Blk w g t cs) (hne : t' ≠ t) : g' ≠ g := by
  intro e
  subst e
  unfold Blk at h'
  rw [h] at h'
  injection h' with h'
  injection h' with _ ht _
  exact hne ht
/-- A row's own block is none of another type's. -/
theorem own_blk_ne {w : World} {g base : Nat} {t e : TypeId} {cs : Array Value} {size n : Nat} {v : Value} {xs : List Value} (h : w.ownsRow base e size v n xs) (hg : Blk w g t cs) (hne : e ≠ t) : some g ≠ v.ownBlock := by
  rcases h.2 with ⟨rfl, _⟩ | ⟨g', cap, cur, rfl, _, hh, _⟩
  · simp [Value.ownBlock]
  · intro he
    have : g' = g := by simpa [Value.ownBlock] using he.symm
    exact Blk.ne_ hh hg hne this
theorem rowL_congr {F G : Nat → Nat} {k : Nat} (h : ∀ i, i < k → F i = G i) : rowL F k = rowL G k := by
  unfold rowL
  refine List.map_congr_left fun i hi => ?_
  rw [h i (List.mem_range.1 hi)]

theorem run_make_cap {P : Program} (t e : TypeId) (i : TypeInfo) (z : Value) (ht : P.underlying t = some (.slice e)) (hi : P.info? e = some i) (hz : i.zero = some z) (hsize : i.size = 1) (hz1 : z.cells = #[z])
    (kl kc : IntKind) (n : Nat) (hbytes : i.bytes * n ≤ 281474976710656) (h63 : n ≤ 9223372036854775807) (w : World) :
    (Instr.makeSlice t (.int kl 0) (.int kc (n : Int))).run P w = .ok (.slice (some ⟨w.heap.size, 0, none⟩) 0 n) (w.alloc (.cells (madeCells #[z] n) e)) := by
  have hb' : (i.bytes : Int) * (n : Int) ≤ 281474976710656 := by
    have h : ((i.bytes * n : Nat) : Int) ≤ 281474976710656 := by omega
    rwa [Int.natCast_mul] at h
  have hr := run_make (P := P) w t e i z ht hi hz kl kc 0 n (Int.le_refl _) (by omega) hb' (by omega)
  simp only [Int.toNat_natCast, Int.toNat_zero, hsize, Nat.mul_one, hz1] at hr
  exact hr
end Go.Proofs.Ytfeabmdioeelhaa
