/-
  Colours: the functions without a body, and contracts of the small functions on singles: Clean, Bits, Fix, Kind, numbers; memory words.
-/
import Derived.Test.YthnbfllhmjpbjaaRows
import Derived.Test.YthnbfllhmjpbjaaFlo
import Derived.Handy
import Derived.Deep.OwnRows
import Derived.RegionTactic
import Derived.BigRegion
import Derived.Deep.QuietTactic
import Derived.BigQuiet
import Derived.Laws.BitsAllLaws
import Derived.Laws.BitsLemmas
import Derived.IntWalk
namespace Go.Proofs.Ythnbfllhmjpbjaa
open Go.RowKit

@[go_sem] theorem cf_from32 (n : Int) (w : World) : (callFunc 125 #[.int .u32 n]).run Try.prog w = .ok (.value (.float .f32 n.toNat)) w :=
  (run_callFunc_extern (e := Extern.MathFloatBits.float32frombits) Try.func125 (by kernel_rfl) (by kernel_rfl) (by kernel_rfl) (by kernel_rfl) _ w).trans rfl
@[go_sem] theorem cf_bits32 (b : Nat) (w : World) : (callFunc 74 #[.float .f32 b]).run Try.prog w = .ok (.value (.int .u32 b)) w :=
  (run_callFunc_extern (e := Extern.MathFloatBits.float32bits) Try.func74 (by kernel_rfl) (by kernel_rfl) (by kernel_rfl) (by kernel_rfl) _ w).trans rfl
@[go_sem] theorem cf_from64 (n : Int) (w : World) : (callFunc 78 #[.int .u64 n]).run Try.prog w = .ok (.value (.float .f64 n.toNat)) w :=
  (run_callFunc_extern (e := Extern.MathFloatBits.float64frombits) Try.func78 (by kernel_rfl) (by kernel_rfl) (by kernel_rfl) (by kernel_rfl) _ w).trans rfl
@[go_sem] theorem cf_bits64 (b : Nat) (w : World) : (callFunc 79 #[.float .f64 b]).run Try.prog w = .ok (.value (.int .u64 b)) w :=
  (run_callFunc_extern (e := Extern.MathFloatBits.float64bits) Try.func79 (by kernel_rfl) (by kernel_rfl) (by kernel_rfl) (by kernel_rfl) _ w).trans rfl

theorem grown_drewN {W w : World} (h : Grown W w) (n : Nat) : Grown W (w.drewN n) := h
theorem grown_trans {a b c : World} (h : Grown a b) (h' : Grown b c) : Grown a c :=
  ⟨World.keptBut_trans h.1 h'.1, fun x => (h'.2.1 x).trans (h.2.1 x), Nat.le_trans h.2.2 h'.2.2⟩

/-- Clean of the bits of a single. -/
def cl (b : Nat) : Nat := cn .f32 b

theorem theNaN_any (w : World) : Calls Try.prog 75 #[] w fun e w' => e = .returned (.float .f32 2143289344) ∧ w = w' := by
  go_enter Try.func75, Try.ntmps75
  go_wp2
  go_ret
  exact ⟨rfl, rfl⟩

theorem clean_any (b : Nat) (w : World) : Calls Try.prog 117 #[.float .f32 b] w fun e w' => e = .returned (.float .f32 (cl b)) ∧ w = w' := by
  by_cases h : isN .f32 b = true
  · have h1 := ne_self .f32 b
    rw [h] at h1
    have H := hid (cn_of_nan h); clear h
    go_enter Try.func117, Try.ntmps117
    go_wp2
    go_ret
    exact ⟨by unfold cl; rw [H.out]; rfl, rfl⟩
  · have h' : isN .f32 b = false := by simpa using h
    have h1 := ne_self .f32 b
    rw [h'] at h1
    have H := hid (cn_of_not h'); clear h h'
    go_enter Try.func117, Try.ntmps117
    go_wp2
    go_ret
    exact ⟨by unfold cl; rw [H.out]; rfl, rfl⟩

theorem fix_any (b : Nat) (w : World) : Calls Try.prog 57 #[.float .f32 b] w fun e w' => e = .returned (.float .f32 (cl b)) ∧ w = w' := by
  by_cases h : isN .f32 b = true
  · have h1 := ne_self .f32 b
    rw [h] at h1
    have H := hid (cn_of_nan h); clear h
    go_enter Try.func57, Try.ntmps57
    go_wp2_with (go_at_call 75; refine (theNaN_any _).mono ?_; rintro e w' ⟨rfl, rfl⟩)
    go_ret
    exact ⟨by unfold cl; rw [H.out]; rfl, rfl⟩
  · have h' : isN .f32 b = false := by simpa using h
    have h1 := ne_self .f32 b
    rw [h'] at h1
    have H := hid (cn_of_not h'); clear h h'
    go_enter Try.func57, Try.ntmps57
    go_wp2
    go_ret
    exact ⟨by unfold cl; rw [H.out]; rfl, rfl⟩

theorem bits_any (b : Nat) (w : World) : Calls Try.prog 134 #[.float .f32 b] w fun e w' => e = .returned (.int .u32 (cl b)) ∧ w = w' := by
  go_enter Try.func134, Try.ntmps134
  go_wp2_with (go_at_call 117; refine (clean_any _ _).mono ?_; rintro e w' ⟨rfl, rfl⟩)
  go_ret
  exact ⟨rfl, rfl⟩

/-- same: the bits are the same. -/
theorem same_any (a b : Nat) (w : World) : Calls Try.prog 21 #[.float .f32 a, .float .f32 b] w fun e w' => e = .returned (.bool (a == b)) ∧ w = w' := by
  by_cases h : a = b
  · subst h
    go_enter Try.func21, Try.ntmps21
    go_wp2
    go_ret
    exact ⟨by simp, rfl⟩
  · have h1 : ((a : Int) == (b : Int)) = false := by rw [beq_eq_false_iff_ne]; omega
    have H := hid h; clear h
    go_enter Try.func21, Try.ntmps21
    go_wp2
    go_ret
    exact ⟨by simp [H.out], rfl⟩
theorem same_yes (a b : Nat) (hab : a = b) (w : World) : Calls Try.prog 21 #[.float .f32 a, .float .f32 b] w fun e w' => e = .returned (.bool true) ∧ w = w' :=
  (same_any a b w).mono fun e w' ⟨he, hw⟩ => ⟨by rw [he]; simp [hab], hw⟩

theorem below_drewN {B : Nat} {a w : World} (h : Below B a w) (n : Nat) : Below B a (w.drewN n) := ⟨h.os, h.tape, h.output, h.size, h.block⟩
theorem bcell {W w1 : World} (hb : Below W.heap.size W w1) : (∀ b o, b < W.heap.size → w1.cell? ⟨b, o, none⟩ = W.cell? ⟨b, o, none⟩) ∧ (∀ b o, b < W.heap.size → w1.frozen? ⟨b, o, none⟩ = W.frozen? ⟨b, o, none⟩) :=
  ⟨fun b o h => hb.cell (p := ⟨b, o, none⟩) h, fun b o h => hb.frozen (p := ⟨b, o, none⟩) h⟩
theorem cl_cl (b : Nat) : cl (cl b) = cl b := cn_cn ..
theorem ret_int {k : IntKind} {a b : Int} (h : a = b) : Ending.returned (.int k a) = .returned (.int k b) := by rw [h]
theorem ret_bool {a b : Bool} (h : a = b) : Ending.returned (.bool a) = .returned (.bool b) := by rw [h]
theorem ret_f {k : FloatKind} {a b : Nat} (h : a = b) : Ending.returned (.float k a) = .returned (.float k b) := by rw [h]
theorem info_f32 : (Try.prog.info? 22).map (fun i => (i.zero, i.size, i.bytes)) = some (some (.float .f32 0), 1, 4) := by kernel_rfl
theorem run_store_float (P : Program) (w : World) (a : Addr) (m : Mode) (k : FloatKind) (b : Nat) : (store a (.float k b) m).run P w = stored P w a (.float k b) m := run_store P w a _ m rfl
/-- The slice at off reads as F. -/
def Rd (w : World) (b off n : Nat) (F : Nat → Nat) : Prop := ∀ i, i < n → w.cell? ⟨b, off + i, none⟩ = some (.float .f32 (F i))

/-- Block g holds just these cells. -/
def Blk (w : World) (g : Nat) (t : TypeId) (cs : Array Value) : Prop := w.heap[g]? = some (.cells cs t (0, 0))
section
variable {w w' : World} {g : Nat} {t : TypeId} {cs : Array Value}
theorem Blk.lt (h : Blk w g t cs) : g < w.heap.size := by
  rcases Nat.lt_or_ge g w.heap.size with hlt | hge
  · exact hlt
  · unfold Blk at h; rw [Array.getElem?_eq_none hge] at h; cases h
theorem Blk.cell (h : Blk w g t cs) (i : Nat) : w.cell? ⟨g, i, none⟩ = cs[i]? := cell_of_row w g i cs t (0, 0) h
theorem Blk.frozen (h : Blk w g t cs) (i : Nat) : w.frozen? ⟨g, i, none⟩ = false := by
  unfold Blk at h
  simp [World.frozen?, h]
theorem Blk.far (h : Blk w g t cs) {p : Addr} (hp : g ≠ p.block) (u : Value) : Blk (w.setCell p u) g t cs := (Below.heap_setCell w p u g hp).trans h
theorem Blk.drewN (h : Blk w g t cs) (n : Nat) : Blk (w.drewN n) g t cs := h
theorem Blk.new (w : World) (t : TypeId) (cs : Array Value) : Blk (w.alloc (.cells cs t)) w.heap.size t cs := heap_alloc_new w _
theorem Blk.set_ (h : Blk w g t cs) (i : Nat) (u : Value) : Blk (w.setCell ⟨g, i, none⟩ u) g t (cs.setIfInBounds i u) := by
  unfold Blk at h ⊢
  simp [World.setCell, Array.getElem?_modify, h]
/-- A frame stored whole. -/
theorem Blk.set5 {c0 c1 c2 c3 c4 : Value} (h : Blk w g t #[c0, c1, c2, c3, c4]) (u0 u1 u2 u3 u4 : Value) :
    Blk (((((w.setCell ⟨g, 0, none⟩ u0).setCell ⟨g, 1, none⟩ u1).setCell ⟨g, 2, none⟩ u2).setCell ⟨g, 3, none⟩ u3).setCell ⟨g, 4, none⟩ u4) g t #[u0, u1, u2, u3, u4] := by
  simpa using ((((h.set_ 0 u0).set_ 1 u1).set_ 2 u2).set_ 3 u3).set_ 4 u4
theorem Blk.new_at {b : Nat} (w : World) (t : TypeId) (cs : Array Value) (h : b = w.heap.size) : Blk (w.alloc (.cells cs t)) b t cs := by subst h; exact heap_alloc_new w _
theorem rowIs_made_at {b : Nat} (w : World) (z : Value) (n : Nat) (t : TypeId) (h : b = w.heap.size) : (w.alloc (.cells (madeCells #[z] n) t)).rowIs b t n (fun _ => z) := by subst h; exact World.rowIs_made w z n t
theorem Blk.alloc (h : Blk w g t cs) (o : Obj) : Blk (w.alloc o) g t cs := (Below.heap_alloc w o g h.lt).trans h
end

theorem Blk.below {w w' : World} {g B : Nat} {t : TypeId} {cs : Array Value} (h : Blk w g t cs) (hb : Below B w w') (hg : g < B) : Blk w' g t cs := (hb.block g hg).trans h
/-- What was boxed last stands behind a call. -/
theorem boxed {w w1 : World} {t : TypeId} {cs : Array Value} (hb : Below (w.alloc (.cells cs t)).heap.size (w.alloc (.cells cs t)) w1) : Blk w1 w.heap.size t cs :=
  (Blk.new w t cs).below hb (by simp)
theorem below_box {w w1 : World} {o : Obj} (hb : Below (w.alloc o).heap.size (w.alloc o) w1) : Below w.heap.size w w1 :=
  ((Below.refl _ _).alloc (Nat.le_refl _) _).trans (hb.mono (by simp))

theorem below_to {W w w' : World} (h : Below W.heap.size W w) (h' : Below w.heap.size w w') : Below W.heap.size W w' := h.trans (h'.mono h.size)

theorem and31u0 (b : Nat) (h : b < 4294967296) : bits BinOp.and IntKind.u32 (b : Int) 2147483647 = ((b % 2147483648 : Nat) : Int) := by
  have := bits_mask .u32 32 (by decide) (fun n h0 h1 => by rw [IntKind.wrap_u32]; omega) 31 (by decide) b (by omega) (by omega)
  rw [show (2 : Int) ^ 31 - 1 = 2147483647 from rfl] at this
  rw [this]; omega
theorem and31u (b : Nat) : bits BinOp.and IntKind.u32 (b : Int) 2147483647 = ((b % 2147483648 : Nat) : Int) := by
  have e : BitVec.ofInt 32 (b : Int) = BitVec.ofInt 32 ((b % 4294967296 : Nat) : Int) := by
    rw [BitVec.ofInt_natCast, BitVec.ofInt_natCast]
    apply BitVec.eq_of_toNat_eq
    simp
  have e2 : bits BinOp.and IntKind.u32 (b : Int) 2147483647 = bits BinOp.and IntKind.u32 ((b % 4294967296 : Nat) : Int) 2147483647 := by
    show IntKind.u32.wrap ((BitVec.ofInt 32 (b : Int) &&& BitVec.ofInt 32 2147483647).toNat : Int) = IntKind.u32.wrap ((BitVec.ofInt 32 ((b % 4294967296 : Nat) : Int) &&& BitVec.ofInt 32 2147483647).toNat : Int)
    rw [e]
  rw [e2, and31u0 _ (Nat.mod_lt _ (by decide))]
  omega

def kindC (r : Nat) : Int := if r = 0 then 0 else if r < 8388608 then 1 else if r < 2139095040 then 2 else if r = 2139095040 then 3 else 4

set_option maxRecDepth 100000 in
theorem kind_any (b : Nat) (w : World) : Calls Try.prog 124 #[.float .f32 b] w fun e w' => e = .returned (.int .i64 (kindC (b % 2147483648))) ∧ w = w' := by
  have ha := and31u b
  generalize hr : b % 2147483648 = r at *
  clear hr
  by_cases h0 : r = 0
  · subst h0
    go_enter Try.func124, Try.ntmps124
    go_wp2
    go_ret
    exact ⟨rfl, rfl⟩
  · have t0 : ((r : Int) == 0) = false := by rw [beq_eq_false_iff_ne]; omega
    by_cases h1 : r < 8388608
    · have hq : kindC r = 1 := by unfold kindC; rw [if_neg h0, if_pos h1]
      have HQ := hid hq; clear hq h0
      have t1 : (r : Int) < 8388608 := by omega
      go_enter Try.func124, Try.ntmps124
      go_wp2
      go_ret
      exact ⟨ret_int HQ.out.symm, rfl⟩
    · have t1 : ¬ (r : Int) < 8388608 := by omega
      by_cases h2 : r < 2139095040
      · have hq : kindC r = 2 := by unfold kindC; rw [if_neg h0, if_neg h1, if_pos h2]
        have HQ := hid hq; clear hq h0
        have t2 : (r : Int) < 2139095040 := by omega
        go_enter Try.func124, Try.ntmps124
        go_wp2
        go_ret
        exact ⟨ret_int HQ.out.symm, rfl⟩
      · have t2 : ¬ (r : Int) < 2139095040 := by omega
        by_cases h3 : r = 2139095040
        · subst h3
          go_enter Try.func124, Try.ntmps124
          go_wp2
          go_ret
          exact ⟨rfl, rfl⟩
        · have hq : kindC r = 4 := by unfold kindC; rw [if_neg h0, if_neg h1, if_neg h2, if_neg h3]
          have HQ := hid hq; clear hq h0
          have t3 : ((r : Int) == 2139095040) = false := by rw [beq_eq_false_iff_ne]; omega
          clear h3
          go_enter Try.func124, Try.ntmps124
          go_wp2
          go_ret
          exact ⟨ret_int HQ.out.symm, rfl⟩

/-- Is it a number? -/
def fin (b : Nat) : Bool := decide (b % 2147483648 < 2139095040)

end Go.Proofs.Ythnbfllhmjpbjaa
