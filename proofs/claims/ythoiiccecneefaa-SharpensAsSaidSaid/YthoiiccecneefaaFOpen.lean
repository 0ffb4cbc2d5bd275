/-
  Arguments opened to cells: frames, regions, slices of singles, pixels; and what is left behind the call.
-/
import Derived.Test.YthoiiccecneefaaFMem
import Derived.WalkKit
import Derived.ProofKit
import Derived.Deep.Slices
import Derived.Carry
namespace Go.Proofs.Ythoiiccecneefaa
open Go.ChangeShapes Go.WideShapes Go.ChangeAt Go.RowKit Go.Deep

theorem laid : laidOutB Try.prog = true := by kernel_rfl

theorem cell_lt {w : World} {a : Addr} {v : Value} (h : w.cell? a = some v) : a.block < w.heap.size := by
  by_cases hlt : a.block < w.heap.size
  · exact hlt
  · exfalso
    have : w.heap[a.block]? = none := Array.getElem?_eq_none (by omega)
    simp [World.cell?, this] at h

section
variable {H : Type} {enc : TypeId × Value → H} {P : Program} {w : World} {base : Nat} {spare : Nat → Bool} {held : Bool}

theorem open_elem {n : Nat} {t : TypeId} {V : Value} {D : DataW H} {Pl : List MemPlace}
    (ht : P.underlying t = some (.float .f32)) (h : DataW.trod enc P w base spare held n t [V] = some (D, Pl)) : ∃ k, V = .float .f32 k ∧ k < 4294967296 := by
  cases n with
  | zero => simp [DataW.trod] at h
  | succ n =>
    simp only [DataW.trod, ht] at h
    cases V <;> simp at h
    rename_i k b
    obtain ⟨⟨rfl, hw⟩, _⟩ := h
    exact ⟨b, rfl, by simpa [Lit.wf] using hw⟩

/-- A slice of singles. -/
theorem open_src {fuel : Nat} {t e : TypeId} {cs : List Value} {x : DataW H × List MemPlace} (ht : P.underlying t = some (.slice e)) (hc : P.cellsOf e = 1) (he : P.underlying e = some (.float .f32))
    (h : DataW.trod enc P w base (fun _ => true) held fuel t cs = some x) : ∃ A n c F, cs = [.slice A n c] ∧ n ≤ c ∧ c ≤ maxLen ∧ Src w A n F ∧ ∀ i, i < n → F i < 4294967296 := by
  rcases open_slice1 ht hc h with ⟨rfl, _⟩ | ⟨a, len, cap, m, n, V, D, Pl, rfl, _, hl, hm, hmm, _, hx⟩
  · exact ⟨none, 0, 0, fun _ => 0, rfl, Nat.le_refl _, Nat.zero_le _, fun h => absurd h (by omega), fun i h => absurd h (by omega)⟩
  · have hmm2 : m = cap := by simpa using hmm
    obtain ⟨F, hF⟩ : ∃ F : Nat → Nat, ∀ i, i < len → w.cell? (a.add i) = some (.float .f32 (F i)) ∧ F i < 4294967296 := by
      have hk : ∀ i, i < len → ∃ k, w.cell? (a.add i) = some (.float .f32 k) ∧ k < 4294967296 := fun i hi => by
        obtain ⟨k, h1, h2⟩ := open_elem he (hx i (by omega)).2
        exact ⟨k, by rw [← h1]; exact (hx i (by omega)).1, h2⟩
      refine ⟨fun i => if h : i < len then Classical.choose (hk i h) else 0, fun i hi => ?_⟩
      have := Classical.choose_spec (hk i hi)
      simp only [hi, dif_pos]
      exact this
    refine ⟨some a, len, cap, F, rfl, hl, hm, fun hn => ?_, fun i hi => (hF i hi).2⟩
    obtain ⟨b, off, spot⟩ := a
    have hspot : spot = none := by simpa [Addr.add] using World.cell?_spot (hx 0 (by omega)).1
    subst hspot
    refine ⟨b, off, rfl, ?_, fun i hi => ?_⟩
    · have := cell_lt (hF 0 hn).1
      simpa [Addr.add] using this
    · have := (hF i hi).1
      rw [Addr.add_lit] at this
      exact this

/-- A region's cells. -/
theorem open_reg {fuel : Nat} {t i : TypeId} {fs : Array Field} {cs : List Value} {x : DataW H × List MemPlace} (ht : P.underlying t = some (.struct fs)) (hC : P.cellsOf t = 4)
    (hi : P.underlying i = some (.int .i64)) (hci : P.cellsOf i = 1)
    (h0 : ∃ f, fs[0]? = some f ∧ f.offset = 0 ∧ f.type = i) (h1 : ∃ f, fs[1]? = some f ∧ f.offset = 1 ∧ f.type = i) (h2 : ∃ f, fs[2]? = some f ∧ f.offset = 2 ∧ f.type = i) (h3 : ∃ f, fs[3]? = some f ∧ f.offset = 3 ∧ f.type = i)
    (h : DataW.trod enc P w base spare held fuel t cs = some x) : ∃ x y a b : Int, cs = [.int .i64 x, .int .i64 y, .int .i64 a, .int .i64 b] ∧ (Lit.int .i64 x).wf = true ∧ (Lit.int .i64 y).wf = true ∧ (Lit.int .i64 a).wf = true ∧ (Lit.int .i64 b).wf = true := by
  obtain ⟨xs, n, _, _, hl, hlen, hg⟩ := DataW.trod_struct ht h
  rw [hC] at hl
  match cs, hl with
  | [c0, c1, c2, c3], _ =>
    have key : ∀ (j : Nat) (c : Value), (∃ f, fs[j]? = some f ∧ f.offset = j ∧ f.type = i) → [c0, c1, c2, c3][j]? = some c → ∃ z : Int, c = .int .i64 z ∧ (Lit.int .i64 z).wf = true := by
      rintro j c ⟨f, hf, ho, hft⟩ hj
      have hg1 := hg j f hf
      rw [ho, hft, hci] at hg1
      have hjl : j < xs.length := by rw [hlen]; exact (Array.getElem?_eq_some_iff.1 hf).1
      rw [List.getElem?_eq_getElem hjl] at hg1
      have hd : ([c0, c1, c2, c3].drop j).take 1 = [c] := by
        have hj4 : j < 4 := by have := (List.getElem?_eq_some_iff.1 hj).1; simpa using this
        have : j = 0 ∨ j = 1 ∨ j = 2 ∨ j = 3 := by omega
        rcases this with rfl | rfl | rfl | rfl <;> simp at hj ⊢ <;> exact hj
      rw [hd] at hg1
      obtain ⟨z, hz, _, hw⟩ := DataW.trod_int hi hg1
      simp at hz
      exact ⟨z, hz, hw⟩
    obtain ⟨x, rfl, hx⟩ := key 0 c0 h0 rfl
    obtain ⟨y, rfl, hy⟩ := key 1 c1 h1 rfl
    obtain ⟨a, rfl, ha⟩ := key 2 c2 h2 rfl
    obtain ⟨b, rfl, hb⟩ := key 3 c3 h3 rfl
    exact ⟨x, y, a, b, rfl, hx, hy, ha, hb⟩

theorem wf_bd {n : Int} (h : (Lit.int .i64 n).wf = true) : -9223372036854775808 ≤ n ∧ n ≤ 9223372036854775807 := by
  simp [Lit.wf, IntKind.min, IntKind.max, IntKind.signed, IntKind.bits] at h
  exact h
end

section
variable {H : Type} {enc : TypeId × Value → H} {w : World} {base : Nat} {spare : Nat → Bool} {held : Bool}

theorem cellsReg : Try.prog.cellsOf 23 = 4 := by kernel_rfl
theorem cellsInt : Try.prog.cellsOf 3 = 1 := by kernel_rfl
theorem cellsF32 : Try.prog.cellsOf 40 = 1 := by kernel_rfl
theorem cellsSl : Try.prog.cellsOf 24 = 1 := by kernel_rfl
theorem cellsFrm : Try.prog.cellsOf 26 = 5 := by kernel_rfl

set_option maxRecDepth 100000 in
/-- A region by value. -/
theorem open_region {r : Reach} {b0 : Nat} {v : Value} {d : DataW H} {p : List MemPlace} (hv : Value.okWide Try.prog w r b0 23 v) (h : DataW.Trod enc Try.prog w base spare held 23 v d p) :
    ∃ x y a b : Int, v = reg x y a b ∧ (Lit.int .i64 x).wf = true ∧ (Lit.int .i64 y).wf = true ∧ (Lit.int .i64 a).wf = true ∧ (Lit.int .i64 b).wf = true := by
  obtain ⟨cs, rfl, hsz⟩ := okWide_struct Try.underlying23 hv
  obtain ⟨fuel, hf⟩ := h
  obtain ⟨x, y, a, b, hcs, h1⟩ := open_reg Try.underlying23 cellsReg Try.underlying3 cellsInt ⟨_, rfl, rfl, rfl⟩ ⟨_, rfl, rfl, rfl⟩ ⟨_, rfl, rfl, rfl⟩ ⟨_, rfl, rfl, rfl⟩ hf
  refine ⟨x, y, a, b, ?_, h1⟩
  simp [Value.cells] at hcs
  have : cs = #[.int .i64 x, .int .i64 y, .int .i64 a, .int .i64 b] := by rw [← hcs]
  rw [this]

set_option maxRecDepth 100000 in
/-- A frame by value. -/
theorem open_frame {r : Reach} {b0 : Nat} {v : Value} {d : DataW H} {p : List MemPlace} (hv : Value.okWide Try.prog w r b0 26 v) (h : DataW.Trod enc Try.prog w base (fun _ => true) held 26 v d p) :
    ∃ (x y a b : Int) (A : Option Addr) (n c : Nat) (F : Nat → Nat), v = frm x y a b A n c ∧ n ≤ c ∧ c ≤ maxLen ∧ Src w A n F ∧ (∀ i, i < n → F i < 4294967296) ∧
      (Lit.int .i64 x).wf = true ∧ (Lit.int .i64 y).wf = true ∧ (Lit.int .i64 a).wf = true ∧ (Lit.int .i64 b).wf = true := by
  obtain ⟨cs, rfl, hsz⟩ := okWide_struct Try.underlying26 hv
  obtain ⟨fuel, hf⟩ := h
  obtain ⟨xs, n, _, _, hl, hlen, hg⟩ := DataW.trod_struct Try.underlying26 hf
  have hc0 := cellsReg
  have hc1 := cellsSl
  have hc2 := cellsFrm
  obtain ⟨l⟩ := cs
  have hl5 : l.length = 5 := by rw [← hc2]; simpa using hsz
  match l, hl5 with
  | [c0, c1, c2, c3, c4], _ =>
    match xs, hlen with
    | [y0, y1], _ =>
      have h0 : DataW.trod enc Try.prog w base (fun _ => true) held n 23 (([c0, c1, c2, c3, c4].drop 0).take (Try.prog.cellsOf 23)) = some y0 := hg 0 _ rfl
      have h1 : DataW.trod enc Try.prog w base (fun _ => true) held n 24 (([c0, c1, c2, c3, c4].drop 4).take (Try.prog.cellsOf 24)) = some y1 := hg 1 _ rfl
      rw [hc0] at h0
      rw [hc1] at h1
      simp at h0 h1
      obtain ⟨x, y, a, b, hcs, hw⟩ := open_reg Try.underlying23 cellsReg Try.underlying3 cellsInt ⟨_, rfl, rfl, rfl⟩ ⟨_, rfl, rfl, rfl⟩ ⟨_, rfl, rfl, rfl⟩ ⟨_, rfl, rfl, rfl⟩ h0
      obtain ⟨A, m, c, F, hcs2, g1, g2, g3, g4⟩ := open_src Try.underlying24 cellsF32 Try.underlying40 h1
      simp at hcs hcs2
      obtain ⟨rfl, rfl, rfl, rfl⟩ := hcs
      subst hcs2
      exact ⟨x, y, a, b, A, m, c, F, rfl, g1, g2, g3, g4, hw⟩

/-- All arguments read as they did. -/
theorem trodAll_below {P : Program} (hl : laidOutB P = true) : ∀ {ts : List TypeId} {vs : List Value} {ds : List (DataW H)} {ps : List MemPlace} {W W' : World}, (∀ t ∈ ts, P.readableRec t = true ∧ t < P.types.size) →
    DataW.TrodAll enc P W 0 (fun _ => true) true ts vs ds ps → Below W.heap.size W W' → (∀ x ∈ ps, x.block < W.heap.size) → DataW.TrodAll enc P W' 0 (fun b => decide (b < W.heap.size)) true ts vs ds ps
  | [], vs, ds, ps, W, W', _, h, _, _ => by
    obtain ⟨rfl, rfl, rfl⟩ := trodAll_nil h
    rfl
  | t :: ts, vs, ds, ps, W, W', hr, h, hb, hlt => by
    obtain ⟨v, vs', d, ds', p, q, rfl, rfl, rfl, h1, h2⟩ := trodAll_cons h
    exact trodAll_cons_mk (Below.trod hl (hr t (by simp)).1 (hr t (by simp)).2 h1 hb (fun x hx => hlt x (by simp [hx]))) (trodAll_below hl (fun t' ht' => hr t' (by simp [ht'])) h2 hb (fun x hx => hlt x (by simp [hx])))

theorem trodAll_five {P : Program} {t t' t'' t3 t4 : TypeId} {args : Array Value} {ds : List (DataW H)} {ps : List MemPlace} (h : DataW.TrodAll enc P w base spare held [t, t', t'', t3, t4] args.toList ds ps) :
    ∃ v v' v'' v3 v4 d d' d'' d3 d4 p p' p'' p3 p4, args = #[v, v', v'', v3, v4] ∧ ds = [d, d', d'', d3, d4] ∧ ps = p ++ p' ++ p'' ++ p3 ++ p4 ∧ DataW.Trod enc P w base spare held t v d p ∧ DataW.Trod enc P w base spare held t' v' d' p' ∧ DataW.Trod enc P w base spare held t'' v'' d'' p'' ∧ DataW.Trod enc P w base spare held t3 v3 d3 p3 ∧ DataW.Trod enc P w base spare held t4 v4 d4 p4 := by
  obtain ⟨v, vs, d, ds', p, q, hargs, rfl, rfl, hd, hrest⟩ := trodAll_cons h
  obtain ⟨v', vs', d', ds'', p', q', rfl, rfl, rfl, hd', hrest'⟩ := trodAll_cons hrest
  obtain ⟨v'', vs'', d'', ds''', p'', q'', rfl, rfl, rfl, hd'', hrest''⟩ := trodAll_cons hrest'
  obtain ⟨v3, vs3, d3, ds3, p3, q3, rfl, rfl, rfl, hd3, hrest3⟩ := trodAll_cons hrest''
  obtain ⟨v4, vs4, d4, ds4, p4, q4, rfl, rfl, rfl, hd4, hrest4⟩ := trodAll_cons hrest3
  obtain ⟨rfl, rfl, rfl⟩ := trodAll_nil hrest4
  exact ⟨v, v', v'', v3, v4, d, d', d'', d3, d4, p, p', p'', p3, p4, by cases args; simp_all, rfl, by simp, hd, hd', hd'', hd3, hd4⟩

theorem trodAll_six {P : Program} {t t' t'' t3 t4 t5 : TypeId} {args : Array Value} {ds : List (DataW H)} {ps : List MemPlace} (h : DataW.TrodAll enc P w base spare held [t, t', t'', t3, t4, t5] args.toList ds ps) :
    ∃ v v' v'' v3 v4 v5 d d' d'' d3 d4 d5 p p' p'' p3 p4 p5, args = #[v, v', v'', v3, v4, v5] ∧ ds = [d, d', d'', d3, d4, d5] ∧ ps = p ++ p' ++ p'' ++ p3 ++ p4 ++ p5 ∧ DataW.Trod enc P w base spare held t v d p ∧ DataW.Trod enc P w base spare held t' v' d' p' ∧ DataW.Trod enc P w base spare held t'' v'' d'' p'' ∧ DataW.Trod enc P w base spare held t3 v3 d3 p3 ∧ DataW.Trod enc P w base spare held t4 v4 d4 p4 ∧ DataW.Trod enc P w base spare held t5 v5 d5 p5 := by
  obtain ⟨v, vs, d, ds', p, q, hargs, rfl, rfl, hd, hrest⟩ := trodAll_cons h
  obtain ⟨v', vs', d', ds'', p', q', rfl, rfl, rfl, hd', hrest'⟩ := trodAll_cons hrest
  obtain ⟨v'', vs'', d'', ds''', p'', q'', rfl, rfl, rfl, hd'', hrest''⟩ := trodAll_cons hrest'
  obtain ⟨v3, vs3, d3, ds3, p3, q3, rfl, rfl, rfl, hd3, hrest3⟩ := trodAll_cons hrest''
  obtain ⟨v4, vs4, d4, ds4, p4, q4, rfl, rfl, rfl, hd4, hrest4⟩ := trodAll_cons hrest3
  obtain ⟨v5, vs5, d5, ds5, p5, q5, rfl, rfl, rfl, hd5, hrest5⟩ := trodAll_cons hrest4
  obtain ⟨rfl, rfl, rfl⟩ := trodAll_nil hrest5
  exact ⟨v, v', v'', v3, v4, v5, d, d', d'', d3, d4, d5, p, p', p'', p3, p4, p5, by cases args; simp_all, rfl, by simp, hd, hd', hd'', hd3, hd4, hd5⟩
end
end Go.Proofs.Ythoiiccecneefaa
