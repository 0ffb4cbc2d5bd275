/-
  Sums of singles, in the program and in the reference.
-/
import Derived.Test.YtcklpmjeimjgmaaFMem
import Derived.Deep.QuietTactic
import Derived.BigQuiet
import Derived.Deep.RegionWith
namespace Go.Proofs.Ytcklpmjeimjgmaa
open Go.RowKit

theorem ret_f {k : FloatKind} {a b : Nat} (h : a = b) : Ending.returned (.float k a) = .returned (.float k b) := by rw [h]

/-- The sum of a list of singles' bits, half by half. -/
def sumF : Nat → List Nat → Nat
  | 0, _ => 0
  | _ + 1, [] => 0
  | _ + 1, [x] => cl x
  | f + 1, x :: y :: l => cop .add .f32 (sumF f ((x :: y :: l).take ((l.length + 2) / 2))) (sumF f ((x :: y :: l).drop ((l.length + 2) / 2)))
def sumC (l : List Nat) : Nat := sumF l.length l

/-- The slice at off reads as the list. -/
def Reads (w : World) (b off : Nat) (l : List Nat) : Prop := ∀ i (h : i < l.length), w.cell? ⟨b, off + i, none⟩ = some (.float .f32 l[i])

/-- The world after some draws. -/
structure Drawn (w w' : World) : Prop where
  ex : ∃ k, w' = w.drewN k
theorem drawn_refl (w : World) : Drawn w w := ⟨0, rfl⟩
theorem drawn_drew {w w' : World} (h : Drawn w w') : Drawn w w'.drew := by obtain ⟨k, rfl⟩ := h.ex; exact ⟨k + 1, rfl⟩
theorem drawn_drewN {w w' : World} (h : Drawn w w') (n : Nat) : Drawn w (w'.drewN n) := by obtain ⟨k, rfl⟩ := h.ex; exact ⟨k + n, by simp⟩
theorem drawn_reads {w w' : World} (h : Drawn w w') {b off : Nat} {l : List Nat} (hr : Reads w b off l) : Reads w' b off l := by obtain ⟨k, rfl⟩ := h.ex; exact hr

def SumSaid (F : FuncId) (n : Nat) : Prop := ∀ (l : List Nat) (b off cap : Nat) (w : World), l.length = n → n ≤ cap → cap ≤ maxLen → Reads w b off l → Calls Try.prog F #[.slice (some ⟨b, off, none⟩) n cap] w fun e w' => e = .returned (.float .f32 (sumC l)) ∧ Drawn w w'

theorem sumF_more : ∀ (f g : Nat) (l : List Nat), l.length ≤ f → l.length ≤ g → sumF f l = sumF g l := by
  intro f
  induction f with
  | zero =>
    intro g l h1 h2
    have : l = [] := List.eq_nil_of_length_eq_zero (by omega)
    subst this
    cases g <;> rfl
  | succ f ih =>
    intro g l h1 h2
    cases g with
    | zero =>
      have : l = [] := List.eq_nil_of_length_eq_zero (by omega)
      subst this; rfl
    | succ g =>
      match l, h1, h2 with
      | [], _, _ => rfl
      | [x], _, _ => rfl
      | x :: y :: l, h1, h2 =>
        simp only [sumF]
        simp only [List.length_cons] at h1 h2
        rw [ih g _ (by simp; omega) (by simp; omega), ih g _ (by simp; omega) (by simp; omega)]

theorem sumC_half (l : List Nat) (h : 2 ≤ l.length) : sumC l = cop .add .f32 (sumC (l.take (l.length / 2))) (sumC (l.drop (l.length / 2))) := by
  match l, h with
  | x :: y :: l, _ =>
    unfold sumC
    simp only [List.length_cons]
    rw [show l.length + 1 + 1 = (l.length + 1) + 1 from rfl]
    simp only [sumF]
    rw [sumF_more (l.length + 1) ((x :: y :: l).take ((l.length + 2) / 2)).length _ (by simp; omega) (Nat.le_refl _), sumF_more (l.length + 1) ((x :: y :: l).drop ((l.length + 2) / 2)).length _ (by rw [List.length_drop]; simp only [List.length_cons]; omega) (Nat.le_refl _)]

theorem cn_sumC (l : List Nat) : cn .f32 (sumC l) = sumC l := by
  match l with
  | [] => decide +kernel
  | [x] => exact cn_cn ..
  | x :: y :: l => rw [sumC_half _ (by simp)]; exact cn_cop ..

set_option maxRecDepth 100000 in
set_option maxHeartbeats 1000000 in
theorem sumn_step (n : Nat) (ih : ∀ m, m < n → SumSaid 150 m) (hn : 2 ≤ n) : SumSaid 150 n := by
  intro l b off cap w hl hc hm hr
  have HS : RowKit.Hid (∀ (o m c : Nat) (w1 : World), off ≤ o → m < n → m ≤ c → c ≤ maxLen → o - off + m ≤ n → Drawn w w1 → Calls Try.prog 150 #[.slice (some ⟨b, o, none⟩) m c] w1 fun e w' => e = .returned (.float .f32 (sumC ((l.drop (o - off)).take m))) ∧ Drawn w w') := by
    intro o m c w1 h1 h2 h3 h4 h5 h6
    refine (ih m h2 ((l.drop (o - off)).take m) b o c w1 (by simp; omega) h3 h4 ?_).mono ?_
    · intro i hi
      have hw := drawn_reads h6 hr
      simp only [List.length_take, List.length_drop] at hi
      have := hw (o - off + i) (by omega)
      rw [show off + (o - off + i) = o + i by omega] at this
      rw [this]; simp
    · rintro e w' ⟨rfl, hd⟩
      exact ⟨rfl, by obtain ⟨k, rfl⟩ := h6.ex; exact drawn_drewN (drawn_refl w) k |> fun _ => by obtain ⟨j, rfl⟩ := hd.ex; exact ⟨k + j, by simp⟩⟩
  have HF := hid (sumC_half l (by omega))
  clear ih hr
  have HM : RowKit.Hid (cap ≤ maxLen) := hid hm
  unfold maxLen at hm
  have h0 : ((n : Int) == 0) = false := by rw [beq_eq_false_iff_ne]; omega
  have h1 : ((n : Int) == 1) = false := by rw [beq_eq_false_iff_ne]; omega
  obtain ⟨k, hk⟩ : ∃ k, k = n / 2 := ⟨_, rfl⟩
  have hk2 : (n : Int) / 2 = (k : Int) := by omega
  have hk3 : 1 ≤ k := by omega
  have hk4 : k < n := by omega
  have HK := hid hk; clear hk
  have HL := hid hl; clear hl
  have kn : Drawn w w := drawn_refl w
  have i1 : (0 : Int) ≤ (k : Int) := by omega
  have i2 : (k : Int) ≤ (n : Int) := by omega
  have i3 : (k : Int) ≤ (cap : Int) := by omega
  have i4 : (n : Int) ≤ (cap : Int) := by omega
  have i5 : (0 : Int) ≤ (n : Int) := by omega
  go_enter Try.func150, Try.ntmps150
  go_wp2
  go_region_with (first | (go_at_call 150; refine (HS.out _ _ _ _ (by omega) (by omega) (by omega) (by have := HM.out; omega) (by omega) ?_).mono ?_; (first | exact drawn_drew kn | assumption | exact drawn_drew (by assumption)); rintro e w' ⟨rfl, hd⟩) | (go_at_call 122; refine (clean_any _ _).mono ?_; rintro e w' ⟨rfl, rfl⟩))
  all_goals first
    | (exfalso; omega)
    | (go_wp2
       go_ret
       refine ⟨ret_f ?_, ?_⟩
       · unfold cl
         rw [cn_fop, cn_sumC, cn_sumC, HF.out, HL.out, ← HK.out]
         rw [List.take_of_length_le (l := l.drop k) (by rw [List.length_drop]; have := HL.out; omega)]
       · first | assumption | exact drawn_drewN (by assumption) _)

set_option maxRecDepth 100000 in
set_option maxHeartbeats 1000000 in
theorem sumr_step (n : Nat) (ih : ∀ m, m < n → SumSaid 156 m) (hn : 2 ≤ n) : SumSaid 156 n := by
  intro l b off cap w hl hc hm hr
  have HS : RowKit.Hid (∀ (o m c : Nat) (w1 : World), off ≤ o → m < n → m ≤ c → c ≤ maxLen → o - off + m ≤ n → Drawn w w1 → Calls Try.prog 156 #[.slice (some ⟨b, o, none⟩) m c] w1 fun e w' => e = .returned (.float .f32 (sumC ((l.drop (o - off)).take m))) ∧ Drawn w w') := by
    intro o m c w1 h1 h2 h3 h4 h5 h6
    refine (ih m h2 ((l.drop (o - off)).take m) b o c w1 (by simp; omega) h3 h4 ?_).mono ?_
    · intro i hi
      have hw := drawn_reads h6 hr
      simp only [List.length_take, List.length_drop] at hi
      have := hw (o - off + i) (by omega)
      rw [show off + (o - off + i) = o + i by omega] at this
      rw [this]; simp
    · rintro e w' ⟨rfl, hd⟩
      exact ⟨rfl, by obtain ⟨k, rfl⟩ := h6.ex; exact drawn_drewN (drawn_refl w) k |> fun _ => by obtain ⟨j, rfl⟩ := hd.ex; exact ⟨k + j, by simp⟩⟩
  have HF := hid (sumC_half l (by omega))
  clear ih hr
  have HM : RowKit.Hid (cap ≤ maxLen) := hid hm
  unfold maxLen at hm
  have h0 : ((n : Int) == 0) = false := by rw [beq_eq_false_iff_ne]; omega
  have h1 : ((n : Int) == 1) = false := by rw [beq_eq_false_iff_ne]; omega
  obtain ⟨k, hk⟩ : ∃ k, k = n / 2 := ⟨_, rfl⟩
  have hk2 : (n : Int) / 2 = (k : Int) := by omega
  have hk3 : 1 ≤ k := by omega
  have hk4 : k < n := by omega
  have HK := hid hk; clear hk
  have HL := hid hl; clear hl
  have kn : Drawn w w := drawn_refl w
  have i1 : (0 : Int) ≤ (k : Int) := by omega
  have i2 : (k : Int) ≤ (n : Int) := by omega
  have i3 : (k : Int) ≤ (cap : Int) := by omega
  have i4 : (n : Int) ≤ (cap : Int) := by omega
  have i5 : (0 : Int) ≤ (n : Int) := by omega
  go_enter Try.func156, Try.ntmps156
  go_wp2
  go_region_with (first | (go_at_call 156; refine (HS.out _ _ _ _ (by omega) (by omega) (by omega) (by have := HM.out; omega) (by omega) ?_).mono ?_; (first | exact drawn_drew kn | assumption | exact drawn_drew (by assumption)); rintro e w' ⟨rfl, hd⟩) | (go_at_call 132; refine (fix_any _ _).mono ?_; rintro e w' ⟨rfl, rfl⟩))
  all_goals first
    | (exfalso; omega)
    | (go_wp2
       go_ret
       refine ⟨ret_f ?_, ?_⟩
       · unfold cl
         rw [cn_fop, cn_sumC, cn_sumC, HF.out, HL.out, ← HK.out]
         rw [List.take_of_length_le (l := l.drop k) (by rw [List.length_drop]; have := HL.out; omega)]
       · first | assumption | exact drawn_drewN (by assumption) _)

set_option maxRecDepth 100000 in
theorem sumn_nil (a : Option Addr) (cap : Nat) (w : World) : Calls Try.prog 150 #[.slice a 0 cap] w fun e w' => e = .returned (.float .f32 (sumC [])) ∧ Drawn w w' := by
  go_enter Try.func150, Try.ntmps150
  go_wp2
  go_ret
  exact ⟨rfl, drawn_refl _⟩

set_option maxRecDepth 100000 in
theorem sumn_one (x : Nat) (b off cap : Nat) (w : World) (hr : w.cell? ⟨b, off, none⟩ = some (.float .f32 x)) : Calls Try.prog 150 #[.slice (some ⟨b, off, none⟩) 1 cap] w fun e w' => e = .returned (.float .f32 (sumC [x])) ∧ Drawn w w' := by
  go_enter Try.func150, Try.ntmps150
  go_wp2_with (go_at_call 122; refine (clean_any _ _).mono ?_; rintro e w' ⟨rfl, rfl⟩)
  go_ret
  exact ⟨rfl, drawn_refl _⟩

theorem sumn_all (n : Nat) : SumSaid 150 n := by
  induction n using Nat.strongRecOn with
  | ind n ih =>
    by_cases h0 : n = 0
    · subst h0
      intro l b off cap w hl _ _ _
      have : l = [] := List.eq_nil_of_length_eq_zero hl
      subst this
      exact sumn_nil _ cap w
    · by_cases h1 : n = 1
      · subst h1
        intro l b off cap w hl _ _ hr
        match l, hl, hr with
        | [x], _, hr => exact sumn_one x b off cap w (by have := hr 0 (by simp); simpa using this)
      · exact sumn_step n ih (by omega)

set_option maxRecDepth 100000 in
theorem sumr_nil (a : Option Addr) (cap : Nat) (w : World) : Calls Try.prog 156 #[.slice a 0 cap] w fun e w' => e = .returned (.float .f32 (sumC [])) ∧ Drawn w w' := by
  go_enter Try.func156, Try.ntmps156
  go_wp2
  go_ret
  exact ⟨rfl, drawn_refl _⟩

set_option maxRecDepth 100000 in
theorem sumr_one (x : Nat) (b off cap : Nat) (w : World) (hr : w.cell? ⟨b, off, none⟩ = some (.float .f32 x)) : Calls Try.prog 156 #[.slice (some ⟨b, off, none⟩) 1 cap] w fun e w' => e = .returned (.float .f32 (sumC [x])) ∧ Drawn w w' := by
  go_enter Try.func156, Try.ntmps156
  go_wp2_with (go_at_call 132; refine (fix_any _ _).mono ?_; rintro e w' ⟨rfl, rfl⟩)
  go_ret
  exact ⟨rfl, drawn_refl _⟩

theorem sumr_all (n : Nat) : SumSaid 156 n := by
  induction n using Nat.strongRecOn with
  | ind n ih =>
    by_cases h0 : n = 0
    · subst h0
      intro l b off cap w hl _ _ _
      have : l = [] := List.eq_nil_of_length_eq_zero hl
      subst this
      exact sumr_nil _ cap w
    · by_cases h1 : n = 1
      · subst h1
        intro l b off cap w hl _ _ hr
        match l, hl, hr with
        | [x], _, hr => exact sumr_one x b off cap w (by have := hr 0 (by simp); simpa using this)
      · exact sumr_step n ih (by omega)
end Go.Proofs.Ytcklpmjeimjgmaa
