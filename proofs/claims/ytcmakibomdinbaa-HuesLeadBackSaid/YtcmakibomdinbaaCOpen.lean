/-
  Colours: arguments opened to cells: pixels, three singles; and what is left behind the call.
-/
import Derived.Test.YtcmakibomdinbaaCSatR
import Derived.WalkKit
import Derived.ProofKit
import Derived.Deep.Slices
import Derived.Carry
import Derived.OpenShut
namespace Go.Proofs.Ytcmakibomdinbaa
open Go.ChangeShapes Go.WideShapes Go.ChangeAt Go.RowKit Go.Deep

theorem laid : laidOutB Try.prog = true := by kernel_rfl
theorem okWide_arr {P : Program} {w : World} {r : Reach} {b0 : Nat} {t : TypeId} {v : Value} {n : Nat} {e : TypeId} (ht : P.underlying t = some (.array n e)) (h : Value.okWide P w r b0 t v) : ∃ cs, v = .agg cs ∧ cs.size = P.cellsOf t := by
  simp only [Value.okWide, ht] at h
  obtain ⟨cs, h1, h2, _⟩ := h
  exact ⟨cs, h1, h2⟩


section
variable {H : Type} {enc : TypeId × Value → H} {P : Program} {w : World} {base : Nat} {spare : Nat → Bool} {held : Bool}

theorem open_elem {n : Nat} {t : TypeId} {V : Value} {D : DataW H} {Pl : List MemPlace}
    (ht : P.underlying t = some (.float .f32)) (h : DataW.trod enc P w base spare held n t [V] = some (D, Pl)) : ∃ k, V = .float .f32 k ∧ k < 4294967296 := by
  cases n with
  | zero => simp [DataW.trod] at h
  | succ n =>
    simp only [DataW.trod, ht] at h
    cases V <;> simp at h
    rename_i k b
    obtain ⟨⟨rfl, hw⟩, _⟩ := h
    exact ⟨b, rfl, by simpa [Lit.wf] using hw⟩


theorem cellsF32 : Try.prog.cellsOf 22 = 1 := by kernel_rfl
theorem cellsPix : Try.prog.cellsOf 24 = 4 := by kernel_rfl
theorem cellsTri : Try.prog.cellsOf 59 = 3 := by kernel_rfl
set_option maxRecDepth 100000 in
/-- A pixel by value. -/
theorem open_pixel {r : Reach} {b0 : Nat} {v : Value} {d : DataW H} {p : List MemPlace} (hv : Value.okWide Try.prog w r b0 24 v) (h : DataW.Trod enc Try.prog w base spare held 24 v d p) :
    ∃ f : Nat → Nat, v = pix f ∧ ∀ k, k < 4 → f k < 4294967296 := by
  obtain ⟨cs, rfl, hsz⟩ := okWide_arr Try.underlying24 hv
  obtain ⟨fuel, hf⟩ := h
  obtain ⟨xs, m, _, _, hl, hlen, hg⟩ := DataW.trod_array Try.underlying24 hf
  have hc1 := cellsF32
  have hc2 := cellsPix
  obtain ⟨l⟩ := cs
  have hl4 : l.length = 4 := by rw [← hc2]; simpa using hsz
  match l, hl4 with
  | [c0, c1, c2, c3], _ =>
    match xs, hlen with
    | [y0, y1, y2, y3], _ =>
      have key : ∀ (i : Nat) (ci : Value) (yi : DataW H × List MemPlace), i < 4 → [c0, c1, c2, c3][i]? = some ci → [y0, y1, y2, y3][i]? = some yi → ∃ k, ci = .float .f32 k ∧ k < 4294967296 := by
        intro i ci yi hi hci hyi
        have h1 : DataW.trod enc Try.prog w base spare held m 22 (([c0, c1, c2, c3].drop (i * 1)).take 1) = some yi := by
          have := hg i hi
          rw [hc1, hyi] at this
          exact this
        have hd : ([c0, c1, c2, c3].drop (i * 1)).take 1 = [ci] := by
          have : i = 0 ∨ i = 1 ∨ i = 2 ∨ i = 3 := by omega
          rcases this with rfl | rfl | rfl | rfl <;> simp at hci <;> subst hci <;> rfl
        rw [hd] at h1
        exact open_elem (D := yi.1) (Pl := yi.2) Try.underlying22 h1
      obtain ⟨k0, rfl, s0⟩ := key 0 c0 y0 (by omega) rfl rfl
      obtain ⟨k1, rfl, s1⟩ := key 1 c1 y1 (by omega) rfl rfl
      obtain ⟨k2, rfl, s2⟩ := key 2 c2 y2 (by omega) rfl rfl
      obtain ⟨k3, rfl, s3⟩ := key 3 c3 y3 (by omega) rfl rfl
      refine ⟨fun k => if k = 0 then k0 else if k = 1 then k1 else if k = 2 then k2 else k3, rfl, ?_⟩
      intro k hk
      have : k = 0 ∨ k = 1 ∨ k = 2 ∨ k = 3 := by omega
      rcases this with rfl | rfl | rfl | rfl
      · exact s0
      · exact s1
      · exact s2
      · exact s3

set_option maxRecDepth 100000 in
/-- Three singles by value. -/
theorem open_tri {r : Reach} {b0 : Nat} {v : Value} {d : DataW H} {p : List MemPlace} (hv : Value.okWide Try.prog w r b0 59 v) (h : DataW.Trod enc Try.prog w base spare held 59 v d p) :
    ∃ f : Nat → Nat, v = tri f ∧ ∀ k, k < 3 → f k < 4294967296 := by
  obtain ⟨cs, rfl, hsz⟩ := okWide_arr Try.underlying59 hv
  obtain ⟨fuel, hf⟩ := h
  obtain ⟨xs, m, _, _, hl, hlen, hg⟩ := DataW.trod_array Try.underlying59 hf
  have hc1 := cellsF32
  have hc2 := cellsTri
  obtain ⟨l⟩ := cs
  have hl4 : l.length = 3 := by rw [← hc2]; simpa using hsz
  match l, hl4 with
  | [c0, c1, c2], _ =>
    match xs, hlen with
    | [y0, y1, y2], _ =>
      have key : ∀ (i : Nat) (ci : Value) (yi : DataW H × List MemPlace), i < 3 → [c0, c1, c2][i]? = some ci → [y0, y1, y2][i]? = some yi → ∃ k, ci = .float .f32 k ∧ k < 4294967296 := by
        intro i ci yi hi hci hyi
        have h1 : DataW.trod enc Try.prog w base spare held m 22 (([c0, c1, c2].drop (i * 1)).take 1) = some yi := by
          have := hg i hi
          rw [hc1, hyi] at this
          exact this
        have hd : ([c0, c1, c2].drop (i * 1)).take 1 = [ci] := by
          have : i = 0 ∨ i = 1 ∨ i = 2 := by omega
          rcases this with rfl | rfl | rfl <;> simp at hci <;> subst hci <;> rfl
        rw [hd] at h1
        exact open_elem (D := yi.1) (Pl := yi.2) Try.underlying22 h1
      obtain ⟨k0, rfl, s0⟩ := key 0 c0 y0 (by omega) rfl rfl
      obtain ⟨k1, rfl, s1⟩ := key 1 c1 y1 (by omega) rfl rfl
      obtain ⟨k2, rfl, s2⟩ := key 2 c2 y2 (by omega) rfl rfl
      refine ⟨fun k => if k = 0 then k0 else if k = 1 then k1 else k2, rfl, ?_⟩
      intro k hk
      have : k = 0 ∨ k = 1 ∨ k = 2 := by omega
      rcases this with rfl | rfl | rfl
      · exact s0
      · exact s1
      · exact s2

/-- All arguments read as they did. -/
theorem trodAll_below {P : Program} (hl : laidOutB P = true) : ∀ {ts : List TypeId} {vs : List Value} {ds : List (DataW H)} {ps : List MemPlace} {W W' : World}, (∀ t ∈ ts, P.readableRec t = true ∧ t < P.types.size) →
    DataW.TrodAll enc P W 0 (fun _ => true) true ts vs ds ps → Below W.heap.size W W' → (∀ x ∈ ps, x.block < W.heap.size) → DataW.TrodAll enc P W' 0 (fun b => decide (b < W.heap.size)) true ts vs ds ps
  | [], vs, ds, ps, W, W', _, h, _, _ => by
    obtain ⟨rfl, rfl, rfl⟩ := trodAll_nil h
    rfl
  | t :: ts, vs, ds, ps, W, W', hr, h, hb, hlt => by
    obtain ⟨v, vs', d, ds', p, q, rfl, rfl, rfl, h1, h2⟩ := trodAll_cons h
    exact trodAll_cons_mk (Below.trod hl (hr t (by simp)).1 (hr t (by simp)).2 h1 hb (fun x hx => hlt x (by simp [hx]))) (trodAll_below hl (fun t' ht' => hr t' (by simp [ht'])) h2 hb (fun x hx => hlt x (by simp [hx])))

theorem trodAll_five {P : Program} {t t' t'' t3 t4 : TypeId} {args : Array Value} {ds : List (DataW H)} {ps : List MemPlace} (h : DataW.TrodAll enc P w base spare held [t, t', t'', t3, t4] args.toList ds ps) :
    ∃ v v' v'' v3 v4 d d' d'' d3 d4 p p' p'' p3 p4, args = #[v, v', v'', v3, v4] ∧ ds = [d, d', d'', d3, d4] ∧ ps = p ++ p' ++ p'' ++ p3 ++ p4 ∧ DataW.Trod enc P w base spare held t v d p ∧ DataW.Trod enc P w base spare held t' v' d' p' ∧ DataW.Trod enc P w base spare held t'' v'' d'' p'' ∧ DataW.Trod enc P w base spare held t3 v3 d3 p3 ∧ DataW.Trod enc P w base spare held t4 v4 d4 p4 := by
  obtain ⟨v, vs, d, ds', p, q, hargs, rfl, rfl, hd, hrest⟩ := trodAll_cons h
  obtain ⟨v', vs', d', ds'', p', q', rfl, rfl, rfl, hd', hrest'⟩ := trodAll_cons hrest
  obtain ⟨v'', vs'', d'', ds''', p'', q'', rfl, rfl, rfl, hd'', hrest''⟩ := trodAll_cons hrest'
  obtain ⟨v3, vs3, d3, ds3, p3, q3, rfl, rfl, rfl, hd3, hrest3⟩ := trodAll_cons hrest''
  obtain ⟨v4, vs4, d4, ds4, p4, q4, rfl, rfl, rfl, hd4, hrest4⟩ := trodAll_cons hrest3
  obtain ⟨rfl, rfl, rfl⟩ := trodAll_nil hrest4
  exact ⟨v, v', v'', v3, v4, d, d', d'', d3, d4, p, p', p'', p3, p4, by cases args; simp_all, rfl, by simp, hd, hd', hd'', hd3, hd4⟩

theorem trodAll_six {P : Program} {t t' t'' t3 t4 t5 : TypeId} {args : Array Value} {ds : List (DataW H)} {ps : List MemPlace} (h : DataW.TrodAll enc P w base spare held [t, t', t'', t3, t4, t5] args.toList ds ps) :
    ∃ v v' v'' v3 v4 v5 d d' d'' d3 d4 d5 p p' p'' p3 p4 p5, args = #[v, v', v'', v3, v4, v5] ∧ ds = [d, d', d'', d3, d4, d5] ∧ ps = p ++ p' ++ p'' ++ p3 ++ p4 ++ p5 ∧ DataW.Trod enc P w base spare held t v d p ∧ DataW.Trod enc P w base spare held t' v' d' p' ∧ DataW.Trod enc P w base spare held t'' v'' d'' p'' ∧ DataW.Trod enc P w base spare held t3 v3 d3 p3 ∧ DataW.Trod enc P w base spare held t4 v4 d4 p4 ∧ DataW.Trod enc P w base spare held t5 v5 d5 p5 := by
  obtain ⟨v, vs, d, ds', p, q, hargs, rfl, rfl, hd, hrest⟩ := trodAll_cons h
  obtain ⟨v', vs', d', ds'', p', q', rfl, rfl, rfl, hd', hrest'⟩ := trodAll_cons hrest
  obtain ⟨v'', vs'', d'', ds''', p'', q'', rfl, rfl, rfl, hd'', hrest''⟩ := trodAll_cons hrest'
  obtain ⟨v3, vs3, d3, ds3, p3, q3, rfl, rfl, rfl, hd3, hrest3⟩ := trodAll_cons hrest''
  obtain ⟨v4, vs4, d4, ds4, p4, q4, rfl, rfl, rfl, hd4, hrest4⟩ := trodAll_cons hrest3
  obtain ⟨v5, vs5, d5, ds5, p5, q5, rfl, rfl, rfl, hd5, hrest5⟩ := trodAll_cons hrest4
  obtain ⟨rfl, rfl, rfl⟩ := trodAll_nil hrest5
  exact ⟨v, v', v'', v3, v4, v5, d, d', d'', d3, d4, d5, p, p', p'', p3, p4, p5, by cases args; simp_all, rfl, by simp, hd, hd', hd'', hd3, hd4, hd5⟩
end
end Go.Proofs.Ytcmakibomdinbaa
