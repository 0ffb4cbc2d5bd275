/-
  Arguments opened to cells: cubes, pixels, three singles, slices of singles; and what is left behind the call.
-/
import Derived.Test.YthnbfllhmjpbjaaKEnt
import Derived.WalkKit
import Derived.ProofKit
import Derived.Deep.Slices
import Derived.Carry
import Derived.OpenShut
namespace Go.Proofs.Ythnbfllhmjpbjaa
open Go.ChangeShapes Go.WideShapes Go.ChangeAt Go.RowKit Go.Deep

theorem laid : laidOutB Try.prog = true := by kernel_rfl

theorem cell_lt {w : World} {a : Addr} {v : Value} (h : w.cell? a = some v) : a.block < w.heap.size := by
  by_cases hlt : a.block < w.heap.size
  · exact hlt
  · exfalso
    have : w.heap[a.block]? = none := Array.getElem?_eq_none (by omega)
    simp [World.cell?, this] at h

section
variable {H : Type} {enc : TypeId × Value → H} {P : Program} {w : World} {base : Nat} {spare : Nat → Bool} {held : Bool}

theorem open_elem {n : Nat} {t : TypeId} {V : Value} {D : DataW H} {Pl : List MemPlace}
    (ht : P.underlying t = some (.float .f32)) (h : DataW.trod enc P w base spare held n t [V] = some (D, Pl)) : ∃ k, V = .float .f32 k ∧ k < 4294967296 := by
  cases n with
  | zero => simp [DataW.trod] at h
  | succ n =>
    simp only [DataW.trod, ht] at h
    cases V <;> simp at h
    rename_i k b
    obtain ⟨⟨rfl, hw⟩, _⟩ := h
    exact ⟨b, rfl, by simpa [Lit.wf] using hw⟩

/-- A slice of singles. -/
theorem open_src {fuel : Nat} {t e : TypeId} {cs : List Value} {x : DataW H × List MemPlace} (ht : P.underlying t = some (.slice e)) (hc : P.cellsOf e = 1) (he : P.underlying e = some (.float .f32))
    (h : DataW.trod enc P w base (fun _ => true) held fuel t cs = some x) : ∃ A n c F, cs = [.slice A n c] ∧ n ≤ c ∧ c ≤ maxLen ∧ Src w A n F ∧ ∀ i, i < n → F i < 4294967296 := by
  rcases open_slice1 ht hc h with ⟨rfl, _⟩ | ⟨a, len, cap, m, n, V, D, Pl, rfl, _, hl, hm, hmm, _, hx⟩
  · exact ⟨none, 0, 0, fun _ => 0, rfl, Nat.le_refl _, Nat.zero_le _, fun h => absurd h (by omega), fun i h => absurd h (by omega)⟩
  · have hmm2 : m = cap := by simpa using hmm
    obtain ⟨F, hF⟩ : ∃ F : Nat → Nat, ∀ i, i < len → w.cell? (a.add i) = some (.float .f32 (F i)) ∧ F i < 4294967296 := by
      have hk : ∀ i, i < len → ∃ k, w.cell? (a.add i) = some (.float .f32 k) ∧ k < 4294967296 := fun i hi => by
        obtain ⟨k, h1, h2⟩ := open_elem he (hx i (by omega)).2
        exact ⟨k, by rw [← h1]; exact (hx i (by omega)).1, h2⟩
      refine ⟨fun i => if h : i < len then Classical.choose (hk i h) else 0, fun i hi => ?_⟩
      have := Classical.choose_spec (hk i hi)
      simp only [hi, dif_pos]
      exact this
    refine ⟨some a, len, cap, F, rfl, hl, hm, fun hn => ?_, fun i hi => (hF i hi).2⟩
    obtain ⟨b, off, spot⟩ := a
    have hspot : spot = none := by simpa [Addr.add] using World.cell?_spot (hx 0 (by omega)).1
    subst hspot
    refine ⟨b, off, rfl, ?_, fun i hi => ?_⟩
    · have := cell_lt (hF 0 hn).1
      simpa [Addr.add] using this
    · have := (hF i hi).1
      rw [Addr.add_lit] at this
      exact this

theorem wf_bd {n : Int} (h : (Lit.int .i64 n).wf = true) : -9223372036854775808 ≤ n ∧ n ≤ 9223372036854775807 := by
  simp [Lit.wf, IntKind.min, IntKind.max, IntKind.signed, IntKind.bits] at h
  exact h
end

theorem okWide_arr {P : Program} {w : World} {r : Reach} {b0 : Nat} {t : TypeId} {v : Value} {n : Nat} {e : TypeId} (ht : P.underlying t = some (.array n e)) (h : Value.okWide P w r b0 t v) : ∃ cs, v = .agg cs ∧ cs.size = P.cellsOf t := by
  simp only [Value.okWide, ht] at h
  obtain ⟨cs, h1, h2, _⟩ := h
  exact ⟨cs, h1, h2⟩


section
variable {H : Type} {enc : TypeId × Value → H} {w : World} {base : Nat} {spare : Nat → Bool} {held : Bool}

theorem cellsF32 : Try.prog.cellsOf 22 = 1 := by kernel_rfl
theorem cellsPix : Try.prog.cellsOf 27 = 4 := by kernel_rfl
theorem cellsTri : Try.prog.cellsOf 30 = 3 := by kernel_rfl
set_option maxRecDepth 100000 in
/-- A pixel by value. -/
theorem open_pixel {r : Reach} {b0 : Nat} {v : Value} {d : DataW H} {p : List MemPlace} (hv : Value.okWide Try.prog w r b0 27 v) (h : DataW.Trod enc Try.prog w base spare held 27 v d p) :
    ∃ f : Nat → Nat, v = pix f ∧ ∀ k, k < 4 → f k < 4294967296 := by
  obtain ⟨cs, rfl, hsz⟩ := okWide_arr Try.underlying27 hv
  obtain ⟨fuel, hf⟩ := h
  obtain ⟨xs, m, _, _, hl, hlen, hg⟩ := DataW.trod_array Try.underlying27 hf
  have hc1 := cellsF32
  have hc2 := cellsPix
  obtain ⟨l⟩ := cs
  have hl4 : l.length = 4 := by rw [← hc2]; simpa using hsz
  match l, hl4 with
  | [c0, c1, c2, c3], _ =>
    match xs, hlen with
    | [y0, y1, y2, y3], _ =>
      have key : ∀ (i : Nat) (ci : Value) (yi : DataW H × List MemPlace), i < 4 → [c0, c1, c2, c3][i]? = some ci → [y0, y1, y2, y3][i]? = some yi → ∃ k, ci = .float .f32 k ∧ k < 4294967296 := by
        intro i ci yi hi hci hyi
        have h1 : DataW.trod enc Try.prog w base spare held m 22 (([c0, c1, c2, c3].drop (i * 1)).take 1) = some yi := by
          have := hg i hi
          rw [hc1, hyi] at this
          exact this
        have hd : ([c0, c1, c2, c3].drop (i * 1)).take 1 = [ci] := by
          have : i = 0 ∨ i = 1 ∨ i = 2 ∨ i = 3 := by omega
          rcases this with rfl | rfl | rfl | rfl <;> simp at hci <;> subst hci <;> rfl
        rw [hd] at h1
        exact open_elem (D := yi.1) (Pl := yi.2) Try.underlying22 h1
      obtain ⟨k0, rfl, s0⟩ := key 0 c0 y0 (by omega) rfl rfl
      obtain ⟨k1, rfl, s1⟩ := key 1 c1 y1 (by omega) rfl rfl
      obtain ⟨k2, rfl, s2⟩ := key 2 c2 y2 (by omega) rfl rfl
      obtain ⟨k3, rfl, s3⟩ := key 3 c3 y3 (by omega) rfl rfl
      refine ⟨fun k => if k = 0 then k0 else if k = 1 then k1 else if k = 2 then k2 else k3, rfl, ?_⟩
      intro k hk
      have : k = 0 ∨ k = 1 ∨ k = 2 ∨ k = 3 := by omega
      rcases this with rfl | rfl | rfl | rfl
      · exact s0
      · exact s1
      · exact s2
      · exact s3

set_option maxRecDepth 100000 in
/-- Three singles by value. -/
theorem open_tri {r : Reach} {b0 : Nat} {v : Value} {d : DataW H} {p : List MemPlace} (hv : Value.okWide Try.prog w r b0 30 v) (h : DataW.Trod enc Try.prog w base spare held 30 v d p) :
    ∃ f : Nat → Nat, v = arr f ∧ ∀ k, k < 3 → f k < 4294967296 := by
  obtain ⟨cs, rfl, hsz⟩ := okWide_arr Try.underlying30 hv
  obtain ⟨fuel, hf⟩ := h
  obtain ⟨xs, m, _, _, hl, hlen, hg⟩ := DataW.trod_array Try.underlying30 hf
  have hc1 := cellsF32
  have hc2 := cellsTri
  obtain ⟨l⟩ := cs
  have hl4 : l.length = 3 := by rw [← hc2]; simpa using hsz
  match l, hl4 with
  | [c0, c1, c2], _ =>
    match xs, hlen with
    | [y0, y1, y2], _ =>
      have key : ∀ (i : Nat) (ci : Value) (yi : DataW H × List MemPlace), i < 3 → [c0, c1, c2][i]? = some ci → [y0, y1, y2][i]? = some yi → ∃ k, ci = .float .f32 k ∧ k < 4294967296 := by
        intro i ci yi hi hci hyi
        have h1 : DataW.trod enc Try.prog w base spare held m 22 (([c0, c1, c2].drop (i * 1)).take 1) = some yi := by
          have := hg i hi
          rw [hc1, hyi] at this
          exact this
        have hd : ([c0, c1, c2].drop (i * 1)).take 1 = [ci] := by
          have : i = 0 ∨ i = 1 ∨ i = 2 := by omega
          rcases this with rfl | rfl | rfl <;> simp at hci <;> subst hci <;> rfl
        rw [hd] at h1
        exact open_elem (D := yi.1) (Pl := yi.2) Try.underlying22 h1
      obtain ⟨k0, rfl, s0⟩ := key 0 c0 y0 (by omega) rfl rfl
      obtain ⟨k1, rfl, s1⟩ := key 1 c1 y1 (by omega) rfl rfl
      obtain ⟨k2, rfl, s2⟩ := key 2 c2 y2 (by omega) rfl rfl
      refine ⟨fun k => if k = 0 then k0 else if k = 1 then k1 else k2, rfl, ?_⟩
      intro k hk
      have : k = 0 ∨ k = 1 ∨ k = 2 := by omega
      rcases this with rfl | rfl | rfl
      · exact s0
      · exact s1
      · exact s2


theorem cellsInt : Try.prog.cellsOf 3 = 1 := by kernel_rfl
theorem cellsSl : Try.prog.cellsOf 23 = 1 := by kernel_rfl
theorem cellsCub : Try.prog.cellsOf 25 = 4 := by kernel_rfl
set_option maxRecDepth 100000 in
/-- A cube by value. -/
theorem open_cube {r : Reach} {b0 : Nat} {v : Value} {d : DataW H} {p : List MemPlace} (hv : Value.okWide Try.prog w r b0 25 v) (h : DataW.Trod enc Try.prog w base (fun _ => true) held 25 v d p) :
    ∃ (S : Int) (L H : Nat) (A : Option Addr) (n c : Nat) (F : Nat → Nat), v = cub S L H A n c ∧ n ≤ c ∧ c ≤ maxLen ∧ Src w A n F ∧ (∀ i, i < n → F i < 4294967296) ∧ (Lit.int .i64 S).wf = true ∧ L < 4294967296 ∧ H < 4294967296 := by
  obtain ⟨cs, rfl, hsz⟩ := okWide_struct Try.underlying25 hv
  obtain ⟨fuel, hf⟩ := h
  obtain ⟨xs, n, _, _, hl, hlen, hg⟩ := DataW.trod_struct Try.underlying25 hf
  have hc0 := cellsInt
  have hc1 := cellsSl
  have hc2 := cellsCub
  have hc3 := cellsF32
  obtain ⟨l⟩ := cs
  have hl4 : l.length = 4 := by rw [← hc2]; simpa using hsz
  match l, hl4 with
  | [c0, c1, c2, c3], _ =>
    match xs, hlen with
    | [y0, y1, y2, y3], _ =>
      have h0 : DataW.trod enc Try.prog w base (fun _ => true) held n 3 (([c0, c1, c2, c3].drop 0).take (Try.prog.cellsOf 3)) = some y0 := hg 0 _ rfl
      have h1 : DataW.trod enc Try.prog w base (fun _ => true) held n 22 (([c0, c1, c2, c3].drop 1).take (Try.prog.cellsOf 22)) = some y1 := hg 1 _ rfl
      have h2 : DataW.trod enc Try.prog w base (fun _ => true) held n 22 (([c0, c1, c2, c3].drop 2).take (Try.prog.cellsOf 22)) = some y2 := hg 2 _ rfl
      have h3 : DataW.trod enc Try.prog w base (fun _ => true) held n 23 (([c0, c1, c2, c3].drop 3).take (Try.prog.cellsOf 23)) = some y3 := hg 3 _ rfl
      rw [hc0] at h0
      rw [hc3] at h1 h2
      rw [hc1] at h3
      simp at h0 h1 h2 h3
      obtain ⟨S, hz, _, hw⟩ := DataW.trod_int Try.underlying3 h0
      simp at hz
      subst hz
      obtain ⟨L, rfl, hL⟩ := open_elem (D := y1.1) (Pl := y1.2) Try.underlying22 h1
      obtain ⟨M, rfl, hM⟩ := open_elem (D := y2.1) (Pl := y2.2) Try.underlying22 h2
      obtain ⟨A, m, c, F, hcs2, g1, g2, g3, g4⟩ := open_src Try.underlying23 cellsF32 Try.underlying22 h3
      simp at hcs2
      subst hcs2
      exact ⟨S, L, M, A, m, c, F, rfl, g1, g2, g3, g4, hw, hL, hM⟩

set_option maxRecDepth 100000 in
/-- A slice of singles. -/
theorem open_singles {r : Reach} {b0 : Nat} {v : Value} {d : DataW H} {p : List MemPlace} (hv : Value.okWide Try.prog w r b0 23 v) (h : DataW.Trod enc Try.prog w base (fun _ => true) held 23 v d p) :
    ∃ (A : Option Addr) (n c : Nat) (F : Nat → Nat), v = .slice A n c ∧ n ≤ c ∧ c ≤ maxLen ∧ Src w A n F ∧ (∀ i, i < n → F i < 4294967296) := by
  obtain ⟨a0, len, cap, rfl⟩ := okWide_slice Try.underlying23 hv
  obtain ⟨fuel, hf⟩ := h
  obtain ⟨A, m, c, F, hcs, g1, g2, g3, g4⟩ := open_src Try.underlying23 cellsF32 Try.underlying22 hf
  simp [Value.cells] at hcs
  obtain ⟨rfl, rfl, rfl⟩ := hcs
  exact ⟨_, _, _, F, rfl, g1, g2, g3, g4⟩
/-- All arguments read as they did. -/
theorem trodAll_below {P : Program} (hl : laidOutB P = true) : ∀ {ts : List TypeId} {vs : List Value} {ds : List (DataW H)} {ps : List MemPlace} {W W' : World}, (∀ t ∈ ts, P.readableRec t = true ∧ t < P.types.size) →
    DataW.TrodAll enc P W 0 (fun _ => true) true ts vs ds ps → Below W.heap.size W W' → (∀ x ∈ ps, x.block < W.heap.size) → DataW.TrodAll enc P W' 0 (fun b => decide (b < W.heap.size)) true ts vs ds ps
  | [], vs, ds, ps, W, W', _, h, _, _ => by
    obtain ⟨rfl, rfl, rfl⟩ := trodAll_nil h
    rfl
  | t :: ts, vs, ds, ps, W, W', hr, h, hb, hlt => by
    obtain ⟨v, vs', d, ds', p, q, rfl, rfl, rfl, h1, h2⟩ := trodAll_cons h
    exact trodAll_cons_mk (Below.trod hl (hr t (by simp)).1 (hr t (by simp)).2 h1 hb (fun x hx => hlt x (by simp [hx]))) (trodAll_below hl (fun t' ht' => hr t' (by simp [ht'])) h2 hb (fun x hx => hlt x (by simp [hx])))

theorem trodAll_five {P : Program} {t t' t'' t3 t4 : TypeId} {args : Array Value} {ds : List (DataW H)} {ps : List MemPlace} (h : DataW.TrodAll enc P w base spare held [t, t', t'', t3, t4] args.toList ds ps) :
    ∃ v v' v'' v3 v4 d d' d'' d3 d4 p p' p'' p3 p4, args = #[v, v', v'', v3, v4] ∧ ds = [d, d', d'', d3, d4] ∧ ps = p ++ p' ++ p'' ++ p3 ++ p4 ∧ DataW.Trod enc P w base spare held t v d p ∧ DataW.Trod enc P w base spare held t' v' d' p' ∧ DataW.Trod enc P w base spare held t'' v'' d'' p'' ∧ DataW.Trod enc P w base spare held t3 v3 d3 p3 ∧ DataW.Trod enc P w base spare held t4 v4 d4 p4 := by
  obtain ⟨v, vs, d, ds', p, q, hargs, rfl, rfl, hd, hrest⟩ := trodAll_cons h
  obtain ⟨v', vs', d', ds'', p', q', rfl, rfl, rfl, hd', hrest'⟩ := trodAll_cons hrest
  obtain ⟨v'', vs'', d'', ds''', p'', q'', rfl, rfl, rfl, hd'', hrest''⟩ := trodAll_cons hrest'
  obtain ⟨v3, vs3, d3, ds3, p3, q3, rfl, rfl, rfl, hd3, hrest3⟩ := trodAll_cons hrest''
  obtain ⟨v4, vs4, d4, ds4, p4, q4, rfl, rfl, rfl, hd4, hrest4⟩ := trodAll_cons hrest3
  obtain ⟨rfl, rfl, rfl⟩ := trodAll_nil hrest4
  exact ⟨v, v', v'', v3, v4, d, d', d'', d3, d4, p, p', p'', p3, p4, by cases args; simp_all, rfl, by simp, hd, hd', hd'', hd3, hd4⟩

theorem trodAll_six {P : Program} {t t' t'' t3 t4 t5 : TypeId} {args : Array Value} {ds : List (DataW H)} {ps : List MemPlace} (h : DataW.TrodAll enc P w base spare held [t, t', t'', t3, t4, t5] args.toList ds ps) :
    ∃ v v' v'' v3 v4 v5 d d' d'' d3 d4 d5 p p' p'' p3 p4 p5, args = #[v, v', v'', v3, v4, v5] ∧ ds = [d, d', d'', d3, d4, d5] ∧ ps = p ++ p' ++ p'' ++ p3 ++ p4 ++ p5 ∧ DataW.Trod enc P w base spare held t v d p ∧ DataW.Trod enc P w base spare held t' v' d' p' ∧ DataW.Trod enc P w base spare held t'' v'' d'' p'' ∧ DataW.Trod enc P w base spare held t3 v3 d3 p3 ∧ DataW.Trod enc P w base spare held t4 v4 d4 p4 ∧ DataW.Trod enc P w base spare held t5 v5 d5 p5 := by
  obtain ⟨v, vs, d, ds', p, q, hargs, rfl, rfl, hd, hrest⟩ := trodAll_cons h
  obtain ⟨v', vs', d', ds'', p', q', rfl, rfl, rfl, hd', hrest'⟩ := trodAll_cons hrest
  obtain ⟨v'', vs'', d'', ds''', p'', q'', rfl, rfl, rfl, hd'', hrest''⟩ := trodAll_cons hrest'
  obtain ⟨v3, vs3, d3, ds3, p3, q3, rfl, rfl, rfl, hd3, hrest3⟩ := trodAll_cons hrest''
  obtain ⟨v4, vs4, d4, ds4, p4, q4, rfl, rfl, rfl, hd4, hrest4⟩ := trodAll_cons hrest3
  obtain ⟨v5, vs5, d5, ds5, p5, q5, rfl, rfl, rfl, hd5, hrest5⟩ := trodAll_cons hrest4
  obtain ⟨rfl, rfl, rfl⟩ := trodAll_nil hrest5
  exact ⟨v, v', v'', v3, v4, v5, d, d', d'', d3, d4, d5, p, p', p'', p3, p4, p5, by cases args; simp_all, rfl, by simp, hd, hd', hd'', hd3, hd4, hd5⟩
end
end Go.Proofs.Ythnbfllhmjpbjaa
