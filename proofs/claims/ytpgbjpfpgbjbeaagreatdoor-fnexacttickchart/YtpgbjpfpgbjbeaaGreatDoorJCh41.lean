/- Laid together: KvM, KvB. -/
import Derived.Test.YtpgbjpfpgbjbeaaGreatDoorJCh35
import Derived.Test.YtpgbjpfpgbjbeaaGreatDoorJCh27
import Derived.Test.YtpgbjpfpgbjbeaaGreatDoorJCh40
/- The chart, told plainly: ticks, messages, and what stays whatever is done. -/
namespace Go.Proofs.YtpgbjpfpgbjbeaaGreatDoor
set_option linter.unusedVariables false
namespace Kv
open Ex (inR evalCode evalVal vFault)
open St (StepD)
open Pf
open Kc
/-- The least due that has come, of the same the first, among the first ones. -/
def firstD (now : Int) (d : Nat → Int) : Nat → Option Nat
  | 0 => none
  | i + 1 => match firstD now d i with
    | none => if d i ≠ 0 ∧ d i ≤ now then some i else none
    | some b => if d i ≠ 0 ∧ d i ≤ now ∧ d i < d b then some i else some b
theorem first_in {now : Int} {d : Nat → Int} : ∀ {n b : Nat}, firstD now d n = some b → b < n ∧ d b ≠ 0 ∧ d b ≤ now
  | 0, b, h => by cases h
  | n + 1, b, h => by
    rw [firstD] at h
    cases hf : firstD now d n with
    | none =>
      rw [hf] at h
      dsimp only at h
      by_cases hc : d n ≠ 0 ∧ d n ≤ now
      · rw [if_pos hc] at h
        cases h
        exact ⟨by omega, hc⟩
      · rw [if_neg hc] at h
        cases h
    | some c =>
      rw [hf] at h
      dsimp only at h
      by_cases hc : d n ≠ 0 ∧ d n ≤ now ∧ d n < d c
      · rw [if_pos hc] at h
        cases h
        exact ⟨by omega, hc.1, hc.2.1⟩
      · rw [if_neg hc] at h
        cases h
        have := first_in hf
        exact ⟨by omega, this.2⟩
theorem first_pad {now : Int} {d : Nat → Int} {n : Nat} (hz : ∀ i, n ≤ i → d i = 0) : ∀ m, firstD now d (n + m) = firstD now d n
  | 0 => rfl
  | m + 1 => by
    rw [show n + (m + 1) = (n + m) + 1 by omega, firstD, first_pad hz m]
    have h0 := hz (n + m) (by omega)
    cases hf : firstD now d n with
    | none => dsimp only; rw [if_neg (by omega)]
    | some c => dsimp only; rw [if_neg (by omega)]
theorem first_zero {now : Int} {d : Nat → Int} (hz : ∀ i, d i = 0) (n : Nat) : firstD now d n = none := by
  have := first_pad (now := now) (d := d) (n := 0) (fun i _ => hz i) n
  rw [Nat.zero_add] at this
  rw [this]
  rfl
theorem first_congr {now : Int} {d d' : Nat → Int} : ∀ n, (∀ i, i < n → d i = d' i) → firstD now d n = firstD now d' n
  | 0, _ => rfl
  | n + 1, h => by
    rw [firstD, firstD, first_congr n (fun i hi => h i (by omega)), h n (by omega)]
    cases hf : firstD now d' n with
    | none => rfl
    | some c => dsimp only; rw [h c (by have := (first_in hf).1; omega)]
/-- How many dues have come. -/
def cntD (now : Int) (d : Nat → Int) : Nat → Nat
  | 0 => 0
  | i + 1 => cntD now d i + (if d i ≠ 0 ∧ d i ≤ now then 1 else 0)
theorem cnt_le {now : Int} {d d' : Nat → Int} (h : ∀ i, d' i ≠ 0 → d' i ≤ now → d i ≠ 0 ∧ d i ≤ now) : ∀ n, cntD now d' n ≤ cntD now d n
  | 0 => Nat.le_refl _
  | n + 1 => by
    rw [cntD, cntD]
    have := cnt_le h n
    by_cases hc : d' n ≠ 0 ∧ d' n ≤ now
    · rw [if_pos hc, if_pos (h n hc.1 hc.2)]; omega
    · rw [if_neg hc]; omega
theorem cnt_lt {now : Int} {d d' : Nat → Int} (h : ∀ i, d' i ≠ 0 → d' i ≤ now → d i ≠ 0 ∧ d i ≤ now) {b : Nat} (hb : d b ≠ 0 ∧ d b ≤ now) (hb2 : ¬ (d' b ≠ 0 ∧ d' b ≤ now)) : ∀ n, b < n → cntD now d' n < cntD now d n
  | 0, hn => absurd hn (by omega)
  | n + 1, hn => by
    rw [cntD, cntD]
    by_cases e : b = n
    · subst e
      have := cnt_le h b
      rw [if_neg hb2, if_pos hb]; omega
    · have := cnt_lt h hb hb2 n (by omega)
      by_cases hc : d' n ≠ 0 ∧ d' n ≤ now
      · rw [if_pos hc, if_pos (h n hc.1 hc.2)]; omega
      · rw [if_neg hc]; omega
theorem cnt_bound (now : Int) (d : Nat → Int) : ∀ n, cntD now d n ≤ n
  | 0 => Nat.le_refl _
  | n + 1 => by rw [cntD]; have := cnt_bound now d n; split <;> omega
/-- What stays whatever is entered or is over. -/
theorem go_keeps {ss : List StepD} {P : CS → Prop} (hst : ∀ s st, P s → P (stopped s st)) (hac : ∀ s k v, P s → P (act s k v)) (hdu : ∀ s k, P s → s.status = 1 → ((PJ ss k).kind = 6 ∨ (PJ ss k).kind = 8) → P (Kc.due s k (s.now + (PJ ss k).arg))) (hsv : ∀ s k v, P s → P (setV s k v)) (hid : ∀ s k, P s → P (idle ss s k)) : ∀ (f : Nat) (b : Bool) (k : Nat) (s : CS), P s → P (go ss f b k s)
  | 0, _, _, s, h => h
  | f + 1, false, k, s, h => by
    have hE := fun j s hs => go_keeps hst hac hdu hsv hid f false j s hs
    have hO := fun j s hs => go_keeps hst hac hdu hsv hid f true j s hs
    have hfold : ∀ (l : List Nat) (s : CS), P s → P (l.foldl (fun s j => go ss f false j s) s) := by
      intro l
      induction l with
      | nil => intro s h; exact h
      | cons a r ih => intro s h; exact ih _ (hE a s h)
    rw [go_enter]
    split
    · next hs1 =>
      have ha := hac s k 1 h
      have hs2 : (act s k 1).status = 1 := hs1
      unfold beginG
      split
      · exact hE _ _ ha
      · split
        · split
          · exact hE _ _ ha
          · exact hst _ _ ha
        · split
          · exact hfold _ _ ha
          · split
            · next h6 => exact hdu _ _ ha hs2 (.inl h6)
            · split
              · split
                · exact hO _ _ (hsv _ _ _ ha)
                · exact hst _ _ ha
              · split
                · next h8 => exact hE _ _ (hdu _ _ ha hs2 (.inr h8))
                · exact ha
    · exact h
  | f + 1, true, k, s, h => by
    have hE := fun j s hs => go_keeps hst hac hdu hsv hid f false j s hs
    have hO := fun j s hs => go_keeps hst hac hdu hsv hid f true j s hs
    rw [go_over]
    have hi := hid s k h
    unfold behindG
    split
    · exact hst _ _ hi
    · split
      · split
        · exact hO _ _ (hac _ _ _ hi)
        · exact hac _ _ _ hi
      · split
        · split
          · exact hE _ _ hi
          · exact hO _ _ hi
        · exact hO _ _ hi
/-- Dues stand at timers and guards alone, and only in what is live. -/
structure Inv (ss : List StepD) (s : CS) : Prop where
  kind : ∀ i, s.dues i ≠ 0 → (PJ ss i).kind = 6 ∨ (PJ ss i).kind = 8
  live : s.status = 1 ∨ ∀ i, s.dues i = 0
theorem upd_same (f : Nat → Int) (i : Nat) (v : Int) : upd f i v i = v := by unfold upd; rw [if_pos rfl]
theorem upd_ne {f : Nat → Int} {i j : Nat} (v : Int) (h : j ≠ i) : upd f i v j = f j := by unfold upd; rw [if_neg h]
theorem zer_or (f : Nat → Int) (i e j : Nat) : zer f i e j = 0 ∨ zer f i e j = f j := by unfold zer; split <;> simp
theorem go_inv {ss : List StepD} (f : Nat) (b : Bool) (k : Nat) (s : CS) (h : Inv ss s) : Inv ss (go ss f b k s) := by
  refine go_keeps (P := Inv ss) (fun s st h => ⟨fun i hi => absurd rfl hi, .inr fun i => rfl⟩) (fun s k v h => ⟨h.kind, h.live⟩) (fun s k h h1 hk => ⟨fun i hi => ?_, .inl h1⟩) (fun s k v h => ⟨h.kind, h.live⟩) (fun s k h => ⟨fun i hi => ?_, ?_⟩) f b k s h
  · by_cases e : i = k
    · subst e; exact hk
    · refine h.kind i ?_
      have : upd s.dues k (s.now + (PJ ss k).arg) i ≠ 0 := hi
      rwa [upd_ne _ e] at this
  · refine h.kind i (fun e => hi ?_)
    show zer s.dues k (endOf ss k) i = 0
    rcases zer_or s.dues k (endOf ss k) i with h1 | h1
    · exact h1
    · rw [h1, e]
  · rcases h.live with h1 | h1
    · exact .inl h1
    · refine .inr fun i => ?_
      show zer s.dues k (endOf ss k) i = 0
      rcases zer_or s.dues k (endOf ss k) i with h2 | h2
      · exact h2
      · rw [h2, h1]
/-- No due that has come is new. -/
structure Far (s0 s : CS) : Prop where
  now : s.now = s0.now
  due : ∀ i, s.dues i = s0.dues i ∨ s.dues i = 0 ∨ s0.now < s.dues i
theorem Far.refl (s : CS) : Far s s := ⟨rfl, fun _ => .inl rfl⟩
theorem Far.trans {a b c : CS} (h : Far a b) (h' : Far b c) : Far a c := ⟨h'.now.trans h.now, fun i => by
  rcases h'.due i with h1 | h1 | h1
  · rw [h1]; exact h.due i
  · exact .inr (.inl h1)
  · exact .inr (.inr (by rw [← h.now]; exact h1))⟩
theorem kind_lt {ss : List StepD} {k : Nat} (h : (PJ ss k).kind = 6 ∨ (PJ ss k).kind = 8) : k < ss.length := by
  rcases Nat.lt_or_ge k ss.length with h1 | h1
  · exact h1
  · have : PJ ss k = ⟨0, 0, ByteArray.empty, 0, [], []⟩ := by
      unfold PJ
      rw [List.getElem?_eq_none h1]
      rfl
    rw [this] at h
    simp at h
theorem far_idle (ss : List StepD) (s : CS) (k : Nat) : Far s (idle ss s k) := ⟨rfl, fun i => by
  rcases zer_or s.dues k (endOf ss k) i with h2 | h2
  · exact .inr (.inl h2)
  · exact .inl h2⟩
theorem go_far {ss : List StepD} (hp : pFault ss = 0) (f : Nat) (b : Bool) (k : Nat) (s : CS) : Far s (go ss f b k s) := by
  refine go_keeps (P := Far s) (fun t st h => ⟨h.now, fun i => .inr (.inl rfl)⟩) (fun t k v h => ⟨h.now, h.due⟩) (fun t k h h1 hk => ⟨h.now, fun i => ?_⟩) (fun t k v h => ⟨h.now, h.due⟩) (fun t k h => h.trans (far_idle ss t k)) f b k s (Far.refl s)
  by_cases e : i = k
  · subst e
    have := Kt.arg_in hp (kind_lt hk) hk
    have hn := h.now
    refine .inr (.inr ?_)
    show s.now < upd t.dues i (t.now + (PJ ss i).arg) i
    rw [upd_same]
    omega
  · have := h.due i
    show upd t.dues k (t.now + (PJ ss k).arg) i = s.dues i ∨ upd t.dues k (t.now + (PJ ss k).arg) i = 0 ∨ s.now < upd t.dues k (t.now + (PJ ss k).arg) i
    rw [upd_ne _ e]
    exact this
/-- A fuel that does for every step. -/
def FU : Nat := 300
theorem fuelE {ss : List StepD} (hl : ss.length ≤ 24) (k : Nat) : mE ss k ≤ FU := by unfold mE FU; omega
theorem fuelO {ss : List StepD} (hp : pFault ss = 0) {k : Nat} (hk : k < ss.length) : mO ss k ≤ FU := by
  have h1 := Pl.deep_le hp hk
  have h2 : ss.length ≤ 24 := by have := (of_p hp).1; omega
  unfold mO FU
  omega
/-- What comes of a due. -/
def endD (ss : List StepD) (s : CS) (k : Nat) : CS :=
  if (PJ ss k).kind = 6 then go ss FU true k s else go ss FU false (kid ss k 1) (idle ss (Kc.due s k 0) (kid ss k 0))
def tickN (ss : List StepD) : Nat → CS → CS
  | 0, s => s
  | m + 1, s => match firstD s.now s.dues ss.length with
    | none => s
    | some k => tickN ss m (endD ss s k)
theorem tick_none {ss : List StepD} {s : CS} (m : Nat) (h : firstD s.now s.dues ss.length = none) : tickN ss m s = s := by
  cases m with
  | zero => rfl
  | succ m => rw [tickN, h]
theorem tick_some {ss : List StepD} {s : CS} {k : Nat} (m : Nat) (h : firstD s.now s.dues ss.length = some k) : tickN ss (m + 1) s = tickN ss m (endD ss s k) := by rw [tickN, h]
theorem inv_due {ss : List StepD} {s : CS} (h : Inv ss s) (k : Nat) : Inv ss (Kc.due s k 0) := by
  refine ⟨fun i hi => ?_, ?_⟩
  · by_cases e : i = k
    · subst e
      exact absurd (upd_same s.dues i 0) hi
    · refine h.kind i ?_
      have : upd s.dues k 0 i ≠ 0 := hi
      rwa [upd_ne _ e] at this
  · rcases h.live with h1 | h1
    · exact .inl h1
    · refine .inr fun i => ?_
      show upd s.dues k 0 i = 0
      by_cases e : i = k
      · subst e; exact upd_same _ _ _
      · rw [upd_ne _ e]; exact h1 i
theorem inv_idle {ss : List StepD} {s : CS} (h : Inv ss s) (k : Nat) : Inv ss (idle ss s k) := by
  refine ⟨fun i hi => h.kind i (fun e => hi ?_), ?_⟩
  · show zer s.dues k (endOf ss k) i = 0
    rcases zer_or s.dues k (endOf ss k) i with h1 | h1
    · exact h1
    · rw [h1, e]
  · rcases h.live with h1 | h1
    · exact .inl h1
    · refine .inr fun i => ?_
      show zer s.dues k (endOf ss k) i = 0
      rcases zer_or s.dues k (endOf ss k) i with h2 | h2
      · exact h2
      · rw [h2, h1]
theorem endD_inv {ss : List StepD} {s : CS} (h : Inv ss s) (k : Nat) : Inv ss (endD ss s k) := by
  unfold endD
  split
  · exact go_inv _ _ _ _ h
  · exact go_inv _ _ _ _ (inv_idle (inv_due h k) _)
theorem endD_ok {ss : List StepD} {s : CS} (h : Ok s) (k : Nat) : Ok (endD ss s k) := by
  unfold endD
  split
  · exact go_ok ss _ _ _ _ h
  · exact go_ok ss _ _ _ _ ((h.due k 0).idle _)
/-- Behind it this due is gone, and no other has come. -/
theorem endD_cnt {ss : List StepD} {s : CS} {k : Nat} (hp : pFault ss = 0) (hk : k < ss.length) (hd : s.dues k ≠ 0 ∧ s.dues k ≤ s.now) : (endD ss s k).now = s.now ∧ cntD s.now (endD ss s k).dues ss.length < cntD s.now s.dues ss.length := by
  have key : ∃ t, Far s t ∧ t.dues k = 0 ∧ Far t (endD ss s k) := by
    unfold endD
    split
    · refine ⟨idle ss s k, far_idle ss s k, ?_, ?_⟩
      · show zer s.dues k (endOf ss k) k = 0
        have := (end_of hk).lt
        unfold zer
        rw [if_pos (by omega)]
      · have e := go_over ss 299 k s
        show Far _ (go ss (299 + 1) true k s)
        have h0 := go_far hp 299
        rw [e]
        unfold behindG
        have hac : ∀ t : CS, ∀ j v, Far t (act t j v) := fun t j v => ⟨rfl, fun i => .inl rfl⟩
        split
        · exact ⟨rfl, fun i => .inr (.inl rfl)⟩
        · split
          · split
            · exact (hac _ _ _).trans (h0 _ _ _)
            · exact hac _ _ _
          · split
            · split
              · exact h0 _ _ _
              · exact h0 _ _ _
            · exact h0 _ _ _
    · have h1 : Far s (Kc.due s k 0) := ⟨rfl, fun i => by
        by_cases e : i = k
        · subst e; exact .inr (.inl (upd_same _ _ _))
        · exact .inl (upd_ne _ e)⟩
      refine ⟨Kc.due s k 0, h1, upd_same _ _ _, (far_idle ss _ _).trans (go_far hp _ _ _ _)⟩
  obtain ⟨t, h1, h2, h3⟩ := key
  have h4 := h1.trans h3
  refine ⟨h4.now, cnt_lt (fun i hi hl => ?_) hd ?_ ss.length hk⟩
  · rcases h4.due i with h5 | h5 | h5
    · rw [h5] at hi hl; exact ⟨hi, hl⟩
    · exact absurd h5 hi
    · omega
  · rcases h3.due k with h5 | h5 | h5
    · rw [h5, h2]; simp
    · rw [h5]; simp
    · rw [h1.now] at h5; omega
/-- Time goes on to now. -/
def tickC (ss : List StepD) (s : CS) (now : Int) : CS := tickN ss ss.length { s with now := now }
/-- The first one that waits for a message, from the i-th step on. -/
def waitF (ss : List StepD) (s : CS) (msg : Int) : Nat → Nat → Option Nat
  | 0, _ => none
  | n + 1, i => if (PJ ss i).kind = 5 ∧ (PJ ss i).arg = msg ∧ s.acts i = 1 then some i else waitF ss s msg n (i + 1)
theorem wait_in {ss : List StepD} {s : CS} {msg : Int} : ∀ {n i k : Nat}, waitF ss s msg n i = some k → i ≤ k ∧ k < i + n
  | 0, i, k, h => by cases h
  | n + 1, i, k, h => by
    rw [waitF] at h
    split at h
    · cases h; omega
    · have := wait_in h; omega
end Kv
end Go.Proofs.YtpgbjpfpgbjbeaaGreatDoor
/- The program's next due, what comes of it, and who waits first for a message. -/
namespace Go.Proofs.YtpgbjpfpgbjbeaaGreatDoor
open Go.RowKit Go.Deep
set_option linter.unusedVariables false
set_option linter.unusedSimpArgs false
namespace Kv
open Ex (inR evalCode evalVal vFault hid)
open St (StepD)
open Pf
open Kc (CS upd zer endOf stopped idle pick aft allOver kid go mE mO Ok kid_mem kid_lt kid_in KAt Rides kval PBlk isOn)
open Ku (UPost goU entering)
def outN : Option Nat → Int
  | none => 0
  | some k => k
def hasN : Option Nat → Bool
  | none => false
  | some _ => true
theorem fs0 {now : Int} {d : Nat → Int} {k : Nat} (h : ¬ (d k ≠ 0 ∧ d k ≤ now)) : firstD now d (k + 1) = firstD now d k := by
  rw [firstD]
  cases firstD now d k with
  | none => dsimp only; rw [if_neg h]
  | some b => dsimp only; rw [if_neg (fun h2 => h ⟨h2.1, h2.2.1⟩)]
theorem fs1 {now : Int} {d : Nat → Int} {k : Nat} (h : d k ≠ 0 ∧ d k ≤ now) (hf : firstD now d k = none) : firstD now d (k + 1) = some k := by
  rw [firstD, hf]; dsimp only; rw [if_pos h]
theorem fs2 {now : Int} {d : Nat → Int} {k b : Nat} (h : d k ≠ 0 ∧ d k ≤ now) (hf : firstD now d k = some b) (hl : d k < d b) : firstD now d (k + 1) = some k := by
  rw [firstD, hf]; dsimp only; rw [if_pos ⟨h.1, h.2, hl⟩]
theorem fs3 {now : Int} {d : Nat → Int} {k b : Nat} (hf : firstD now d k = some b) (hl : ¬ d k < d b) : firstD now d (k + 1) = some b := by
  rw [firstD, hf]; dsimp only; rw [if_neg (fun h => hl h.2.2)]
set_option maxRecDepth 100000 in
set_option maxHeartbeats 4000000 in
theorem nextDueU (w : World) (R : Nat) (d : Nat → Int) (now : Int) (hc : ∀ i, i < 24 → w.cell? ⟨R, 31 + i, none⟩ = some (.int .i64 (d i))) :
    Calls Tryz.prog 56 #[.slice (some ⟨R, 31, none⟩) 24 24, .int .i64 now] w fun e w' => e = .returned (.tuple #[.int .i64 (outN (firstD now d 24)), .bool (hasN (firstD now d 24))]) ∧ w' = w := by
  have HC := hid hc
  obtain ⟨F, eF⟩ : ∃ F, F = firstD now d := ⟨_, rfl⟩
  rw [← eF]
  have HF := hid eF
  clear hc eF
  go_enter Tryz.func56, Tryz.ntmps56
  go_wp2
  go_loop [6, 7, 12] (fun nx fd i => ∃ k : Nat, k ≤ 24 ∧ i = .int .i64 k ∧ nx = .int .i64 (outN (F k)) ∧ fd = .bool (hasN (F k))) (fun _ _ i => 24 - (intOf i).toNat)
  case atStart => exact ⟨0, by omega, rfl, by rw [HF.out]; rfl, by rw [HF.out]; rfl⟩
  case round =>
    obtain ⟨k, hk, rfl, rfl, rfl⟩ := hrel
    by_cases hlt : k < 24
    · have c1 := HC.out k hlt
      have q1 : (k : Int) < 24 := by omega
      have S0 : Hid (¬ (d k ≠ 0 ∧ d k ≤ now) → F (k + 1) = F k) := hid (fun h => by rw [HF.out]; exact fs0 h)
      have S1 : Hid (d k ≠ 0 ∧ d k ≤ now → F k = none → F (k + 1) = some k) := hid (fun h h2 => by rw [HF.out] at h2 ⊢; exact fs1 h h2)
      have S2 : Hid (∀ b, d k ≠ 0 ∧ d k ≤ now → F k = some b → d k < d b → F (k + 1) = some k) := hid (fun b h h2 h3 => by rw [HF.out] at h2 ⊢; exact fs2 h h2 h3)
      have S3 : Hid (∀ b, F k = some b → ¬ d k < d b → F (k + 1) = some b) := hid (fun b h2 h3 => by rw [HF.out] at h2 ⊢; exact fs3 h2 h3)
      have SB : Hid (∀ b, F k = some b → b < k) := hid (fun b h => by rw [HF.out] at h; exact (first_in h).1)
      generalize hx : d k = x at *
      clear hx
      by_cases h1 : x = 0
      · have b1 : (x != 0) = false := by simp [h1]
        have HS := hid (S0.out (fun h => h.1 h1))
        clear S0 S1 S2 S3 SB h1
        generalize F k = Fo at *
        go_wp2
        exact ⟨⟨k + 1, by omega, by simp, by rw [HS.out], by rw [HS.out]⟩, by simp [intOf]; omega⟩
      · have b1 : (x != 0) = true := bne_iff_ne.2 h1
        by_cases h2 : x ≤ now
        · cases hf : F k with
          | none =>
            have HS := hid (S1.out ⟨h1, h2⟩ hf)
            clear S0 S1 S2 S3 SB
            clear hf
            simp only [outN, hasN]
            go_wp2
            exact ⟨⟨k + 1, by omega, by simp, by rw [HS.out], by rw [HS.out]⟩, by simp [intOf]; omega⟩
          | some b =>
            have hb := SB.out b hf
            have c2 := HC.out b (by omega)
            have q2 : (b : Int) < 24 := by omega
            have q3 : (0 : Int) ≤ (b : Int) := by omega
            by_cases h3 : x < d b
            · have HS := hid (S2.out b ⟨h1, h2⟩ hf h3)
              clear S0 S1 S2 S3 SB
              clear hf
              simp only [outN, hasN]
              go_wp2
              exact ⟨⟨k + 1, by omega, by simp, by rw [HS.out], by rw [HS.out]⟩, by simp [intOf]; omega⟩
            · have HS := hid (S3.out b hf h3)
              clear S0 S1 S2 S3 SB
              clear hf
              simp only [outN, hasN]
              go_wp2
              exact ⟨⟨k + 1, by omega, by simp, by rw [HS.out], by rw [HS.out]⟩, by simp [intOf]; omega⟩
        · have HS := hid (S0.out (fun h => h2 h.2))
          clear S0 S1 S2 S3 SB
          generalize F k = Fo at *
          go_wp2
          exact ⟨⟨k + 1, by omega, by simp, by rw [HS.out], by rw [HS.out]⟩, by simp [intOf]; omega⟩
    · obtain rfl : k = 24 := by omega
      have q1 : ¬ ((24 : Nat) : Int) < 24 := by omega
      go_wp2
      go_ret2
      exact ⟨rfl, rfl⟩
set_option maxRecDepth 100000 in
set_option maxHeartbeats 8000000 in
theorem endDue6 (wg w : World) (R : Nat) (u : Value) (ss : List StepD) (s : CS) (k : Nat) (hp : pFault ss = 0) (hk : k < ss.length) (hkd : (PJ ss k).kind = 6) (hok : Ok s) (h : KAt wg w R u ss s) :
    Calls Tryz.prog 57 #[.pointer (some ⟨R, 0, none⟩), .int .i64 (k : Int)] w (UPost wg R u ss (endD ss s k) w) := by
  have hl : ss.length ≤ 24 := by have := (of_p hp).1; omega
  have hkd' : ss[k].kind = 6 := by rw [← PJ_eq hk]; exact hkd
  have hRl := h.lt
  obtain ⟨gu, cu, kv, vc, ve, eu, hgu, d0, d1, d2, d3, d4, d5, d6, d7, d8, hpc⟩ := Ku.KAt.cells h hk
  have c0 := h.c0
  rw [eu] at c0
  rw [hkd'] at d3
  obtain ⟨ak, ck, rfl⟩ := hpc.kids.slice
  obtain ⟨ac, cc, rfl⟩ := hpc.cond.slice
  obtain ⟨ae, ce, rfl⟩ := hpc.expr.slice
  have hgl : gu < w.heap.size := Nat.lt_of_lt_of_le hgu h.bel.size
  have q1 : (k : Int) < (ss.length : Int) := by omega
  obtain ⟨w0, e0⟩ : ∃ w0, w0 = w.alloc (.cells #[.int .i64 (k : Int), .int .i64 ((path ss (k + 1)).length : Int), .slice ak (kidsL ss k).length ck, .int .i64 6, .int .i64 ss[k].parent, .string ss[k].name, .int .i64 ss[k].arg, .slice ac ss[k].cond.length cc, .slice ae ss[k].expr.length ce] 86) := ⟨_, rfl⟩
  have hb0 : Below w.heap.size w w0 := by rw [e0]; exact (Below.refl _ w).alloc (Nat.le_refl _) _
  have hx0 : PBlk w0 w.heap.size #[.int .i64 (k : Int), .int .i64 ((path ss (k + 1)).length : Int), .slice ak (kidsL ss k).length ck, .int .i64 6, .int .i64 ss[k].parent, .string ss[k].name, .int .i64 ss[k].arg, .slice ac ss[k].cond.length cc, .slice ae ss[k].expr.length ce] := by rw [e0]; exact Ch.new_blk _ _
  have hK0 := h.below hb0
  have HK0 := hid hK0
  have HR0 : Hid (Rides R w w0) := hid (Rides.of_below hb0)
  have hlt0 : w.heap.size < w0.heap.size := Ch.blk_lt hx0
  have HO := hid ((goU (wg := wg) (R := R) (u := u) hp FU).2.2 k s w0 hk (fuelO hp hk) hok hK0)
  have ET : Hid (endD ss s k = go ss FU true k s) := hid (by unfold endD; rw [if_pos hkd])
  generalize endD ss s k = tgt at *
  clear h hpc hb0 hx0 hK0 hp hkd' hkd hok
  subst eu
  go_enter Tryz.func57, Tryz.ntmps57
  go_wp2_with fail
  rw [← e0]
  clear e0
  refine HO.out.mono ?_
  rintro e w7 hT
  obtain rfl := hT.1
  have HU := hid hT
  clear hT
  go_wp2
  go_end0
  exact HU.out.of HR0.out ET.out
set_option maxRecDepth 100000 in
set_option maxHeartbeats 16000000 in
theorem endDue8 (wg w : World) (R : Nat) (u : Value) (ss : List StepD) (s : CS) (k : Nat) (hp : pFault ss = 0) (hk : k < ss.length) (hkd : (PJ ss k).kind = 8) (hok : Ok s) (h : KAt wg w R u ss s) :
    Calls Tryz.prog 57 #[.pointer (some ⟨R, 0, none⟩), .int .i64 (k : Int)] w (UPost wg R u ss (endD ss s k) w) := by
  have hn2 : (kidsL ss k).length = 2 := Kc.kids_guard hp hk hkd
  have hl : ss.length ≤ 24 := by have := (of_p hp).1; omega
  have hkd' : ss[k].kind = 8 := by rw [← PJ_eq hk]; exact hkd
  have hRl := h.lt
  obtain ⟨gu, cu, kv, vc, ve, eu, hgu, d0, d1, d2, d3, d4, d5, d6, d7, d8, hpc⟩ := Ku.KAt.cells h hk
  have c0 := h.c0
  rw [eu] at c0
  rw [hkd'] at d3
  obtain ⟨bk, ck, rfl, hbk, _, _, hcell⟩ := Kc.kids_at hpc.kids (by omega)
  obtain ⟨ac, cc, rfl⟩ := hpc.cond.slice
  obtain ⟨ae, ce, rfl⟩ := hpc.expr.slice
  have hgl : gu < w.heap.size := Nat.lt_of_lt_of_le hgu h.bel.size
  have q1 : (k : Int) < (ss.length : Int) := by omega
  obtain ⟨w0, e0⟩ : ∃ w0, w0 = w.alloc (.cells #[.int .i64 (k : Int), .int .i64 ((path ss (k + 1)).length : Int), .slice (some ⟨bk, 0, none⟩) (kidsL ss k).length ck, .int .i64 8, .int .i64 ss[k].parent, .string ss[k].name, .int .i64 ss[k].arg, .slice ac ss[k].cond.length cc, .slice ae ss[k].expr.length ce] 86) := ⟨_, rfl⟩
  have hb0 : Below w.heap.size w w0 := by rw [e0]; exact (Below.refl _ w).alloc (Nat.le_refl _) _
  have hx0 : PBlk w0 w.heap.size #[.int .i64 (k : Int), .int .i64 ((path ss (k + 1)).length : Int), .slice (some ⟨bk, 0, none⟩) (kidsL ss k).length ck, .int .i64 8, .int .i64 ss[k].parent, .string ss[k].name, .int .i64 ss[k].arg, .slice ac ss[k].cond.length cc, .slice ae ss[k].expr.length ce] := by rw [e0]; exact Ch.new_blk _ _
  have hK0 := h.below hb0
  have HK0 := hid hK0
  have HR0 : Hid (Rides R w w0) := hid (Rides.of_below hb0)
  have hlt0 : w.heap.size < w0.heap.size := Ch.blk_lt hx0
  have c1 := hcell 0 (by omega)
  have c2 := hcell 1 (by omega)
  have hx1 : kid ss k 0 = (kidsL ss k)[0] := Kt.kid_ix (by omega)
  have hx2 : kid ss k 1 = (kidsL ss k)[1] := Kt.kid_ix (by omega)
  rw [← hx1] at c1
  rw [← hx2] at c2
  have hm1 := (kid_mem.1 (kid_in (ss := ss) (k := k) (i := 0) (by omega))).1
  have hm2 := (kid_mem.1 (kid_in (ss := ss) (k := k) (i := 1) (by omega))).1
  have ET : Hid (endD ss s k = go ss FU false (kid ss k 1) (idle ss (Kc.due s k 0) (kid ss k 0))) := hid (by unfold endD; rw [if_neg (by omega)])
  have mD := hK0.cD (i := k) (by omega)
  have fD := hK0.free (31 + k)
  have q8 : (k : Int) < 24 := by omega
  have q9 : (0 : Int) ≤ (k : Int) := by omega
  have hRl0 : R < w0.heap.size := by omega
  obtain ⟨w5, e5⟩ : ∃ w5, w5 = w0.setCell ⟨R, 31 + k, none⟩ (.int .i64 0) := ⟨_, rfl⟩
  have hK5 := Kc.KAt.due hK0 hk hl 0
  rw [← e5] at hK5
  have hR5 : Rides R w0 w5 := by rw [e5]; exact Rides.set R _ _ _
  have hz5 := hR5.size
  have d25 := (Ku.rides_cell hR5 (b := w.heap.size) (o := 2) hlt0 (by omega)).trans (hx0.cell 2)
  simp only [List.getElem?_toArray, List.getElem?_cons_succ, List.getElem?_cons_zero] at d25
  have c15 := (hK5.bel.cell (p := ⟨bk, 0, none⟩) hbk).trans c1
  have hbk5 : bk < w5.heap.size := Nat.lt_of_lt_of_le hbk hK5.bel.size
  have HRS := hid (Ku.rest wg w5 R u ss _ (kid ss k 0) hp hm1 hK5)
  have HFF := hid (fun w6 (hK6 : KAt wg w6 R u ss (idle ss (Kc.due s k 0) (kid ss k 0))) => entering wg w6 R u ss _ (kid ss k 1) hl hm2 hK6)
  have HEN := hid (fun w6 b1 b2 b3 hK6 hcl => (goU (wg := wg) (R := R) (u := u) hp FU).1 (kid ss k 1) (idle ss (Kc.due s k 0) (kid ss k 0)) w6 b1 b2 b3 hm2 (fuelE hl _) ((hok.due k 0).idle _) hK6 hcl)
  have hc2w := fun w6 (hK6 : KAt wg w6 R u ss (idle ss (Kc.due s k 0) (kid ss k 0))) => (hK6.bel.cell (p := ⟨bk, 1, none⟩) hbk).trans c2
  have HC2 := hid hc2w
  have HR5 := hid (HR0.out.trans hR5)
  have HX5 := hid d25
  generalize endD ss s k = tgt at *
  generalize kid ss k 0 = x1 at *
  generalize kid ss k 1 = x2 at *
  generalize idle ss (Kc.due s k 0) x1 = s6 at *
  have q3 : (0 : Int) < ((kidsL ss k).length : Int) := by omega
  have q4 : (1 : Int) < ((kidsL ss k).length : Int) := by omega
  clear h hpc hb0 hx0 hK0 hp hkd' hkd hok c1 c2 hcell hx1 hx2 hK5 hR5 hc2w hn2
  generalize (kidsL ss k).length = nk at *
  subst eu
  go_enter Tryz.func57, Tryz.ntmps57
  go_upto_region 3 with fail
  rw [← e0]
  clear e0
  go_upto_region 4 with fail
  rw [← e5]
  clear e5
  go_wp2_with fail
  refine HRS.out.mono ?_
  rintro e w6 hT
  obtain rfl := hT.1
  have HU := hid hT
  clear hT
  have d26 := (Ku.rides_cell HU.out.2.2 (b := w.heap.size) (o := 2) (by omega) (by omega)).trans HX5.out
  have c26 := HC2.out w6 HU.out.2.1
  have hbk6 : bk < w6.heap.size := Nat.lt_of_lt_of_le hbk5 HU.out.2.2.size
  have hz6 := HU.out.2.2.size
  have HEN6 := hid (HFF.out w6 HU.out.2.1)
  go_wp2_with fail
  refine HEN6.out.mono ?_
  rintro e w7 ⟨⟨b1, b2, b3, rfl, hcl⟩, hb7⟩
  have HE7 := hid (HEN.out w7 b1 b2 b3 (HU.out.2.1.below hb7) hcl)
  have HR7 := hid ((HR5.out.trans HU.out.2.2).trans (Rides.of_below hb7))
  clear hcl hb7
  go_wp2_with (go_at_call 73; refine HE7.out.mono ?_; rintro e w8 hT; obtain rfl := hT.1; have HV := hid hT; clear hT)
  go_end0
  exact HV.out.of HR7.out ET.out
theorem endDueU (wg w : World) (R : Nat) (u : Value) (ss : List StepD) (s : CS) (k : Nat) (hp : pFault ss = 0) (hk : k < ss.length) (hkd : (PJ ss k).kind = 6 ∨ (PJ ss k).kind = 8) (hok : Ok s) (h : KAt wg w R u ss s) :
    Calls Tryz.prog 57 #[.pointer (some ⟨R, 0, none⟩), .int .i64 (k : Int)] w (UPost wg R u ss (endD ss s k) w) := by
  rcases hkd with e | e
  · exact endDue6 wg w R u ss s k hp hk e hok h
  · exact endDue8 wg w R u ss s k hp hk e hok h
set_option maxRecDepth 100000 in
set_option maxHeartbeats 8000000 in
theorem firstWaitU (wg w : World) (R : Nat) (u : Value) (ss : List StepD) (s : CS) (msg : Int) (hl : ss.length ≤ 24) (h : KAt wg w R u ss s) :
    Calls Tryz.prog 58 #[.pointer (some ⟨R, 0, none⟩), .int .i64 msg] w fun e w' => e = .returned (.tuple #[.int .i64 (outN (waitF ss s msg ss.length 0)), .bool (hasN (waitF ss s msg ss.length 0))]) ∧ Below w.heap.size w w' := by
  obtain ⟨F, eF⟩ : ∃ F, F = waitF ss s msg := ⟨_, rfl⟩
  rw [← eF]
  have HF := hid eF
  clear eF
  have hu := h.c0
  have hRl := h.lt
  obtain ⟨gu, cu, eu, hgu, _⟩ := h.steps
  rw [eu] at hu
  have HK := hid h
  clear h
  go_enter Tryz.func58, Tryz.ntmps58
  go_wp2
  clear hu
  go_loopw [7, 13] (fun _ x wr => ∃ k : Nat, x = .int .i64 k ∧ k ≤ ss.length ∧ Hid (F ss.length 0 = F (ss.length - k) k) ∧ Hid (Below w.heap.size w wr)) (fun _ x _ => ss.length - (intOf x).toNat)
  case atStart => exact ⟨0, rfl, Nat.zero_le _, hid rfl, hid (Below.refl _ _)⟩
  case round =>
    obtain ⟨k, rfl, hk, HFk, HBR⟩ := hrel
    have hz := HBR.out.size
    by_cases hlt : k < ss.length
    · have hK := HK.out.below HBR.out
      obtain ⟨g', cap', e', hg, hc⟩ := hK.steps
      rw [eu] at e'
      cases e'
      obtain ⟨kv, vc, ve, d0, d1, d2, d3, d4, d5, d6, d7, d8, hpc⟩ := hc k hlt
      obtain ⟨ak, ck, rfl⟩ := hpc.kids.slice
      obtain ⟨ac, cc, rfl⟩ := hpc.cond.slice
      obtain ⟨ae, ce, rfl⟩ := hpc.expr.slice
      have hxA : Below wr.heap.size wr (wr.alloc (.cells #[.int .i64 (k : Int), .int .i64 ((path ss (k + 1)).length : Int), .slice ak (kidsL ss k).length ck, .int .i64 ss[k].kind, .int .i64 ss[k].parent, .string ss[k].name, .int .i64 ss[k].arg, .slice ac ss[k].cond.length cc, .slice ae ss[k].expr.length ce] 86)) := (Below.refl _ wr).alloc (Nat.le_refl _) _
      have q1 : (k : Int) < (ss.length : Int) := by omega
      have HN : Hid (F (ss.length - k) k = if ss[k].kind = 5 ∧ ss[k].arg = msg ∧ s.acts k = 1 then some k else F (ss.length - (k + 1)) (k + 1)) := hid (by rw [HF.out, show ss.length - k = (ss.length - (k + 1)) + 1 by omega, waitF, PJ_eq hlt])
      have HON : Hid (Calls Tryz.prog 53 #[.pointer (some ⟨R, 0, none⟩), .int .i64 (k : Int)] (wr.alloc (.cells #[.int .i64 (k : Int), .int .i64 ((path ss (k + 1)).length : Int), .slice ak (kidsL ss k).length ck, .int .i64 ss[k].kind, .int .i64 ss[k].parent, .string ss[k].name, .int .i64 ss[k].arg, .slice ac ss[k].cond.length cc, .slice ae ss[k].expr.length ce] 86)) fun e w' => e = .returned (.bool (s.acts k == 1)) ∧ w' = wr.alloc (.cells #[.int .i64 (k : Int), .int .i64 ((path ss (k + 1)).length : Int), .slice ak (kidsL ss k).length ck, .int .i64 ss[k].kind, .int .i64 ss[k].parent, .string ss[k].name, .int .i64 ss[k].arg, .slice ac ss[k].cond.length cc, .slice ae ss[k].expr.length ce] 86)) := hid (isOn wg _ R u ss s k (by omega) (hK.below hxA))
      clear hc hpc hK hxA
      by_cases h1 : ss[k].kind = 5
      · have b1 : (ss[k].kind == 5) = true := by simp [h1]
        by_cases h2 : ss[k].arg = msg
        · have b2 : (ss[k].arg == msg) = true := by simp [h2]
          by_cases h3 : s.acts k = 1
          · have HV : Hid (F ss.length 0 = some k) := hid (by rw [HFk.out, HN.out, if_pos ⟨h1, h2, h3⟩])
            rw [show (s.acts k == 1) = true by simp [h3]] at HON
            clear h1 h2 h3 HN HFk
            go_wp2_with (go_at_call 53; refine HON.out.mono ?_; rintro e w2 ⟨rfl, hw2⟩; replace hw2 := hw2.symm; subst hw2)
            go_ret2
            exact ⟨by rw [HV.out]; rfl, HBR.out.alloc hz _⟩
          · have HV : Hid (F ss.length 0 = F (ss.length - (k + 1)) (k + 1)) := hid (by rw [HFk.out, HN.out, if_neg (fun h => h3 h.2.2)])
            rw [show (s.acts k == 1) = false by simp [h3]] at HON
            clear h1 h2 h3 HN HFk
            go_wp2_with (go_at_call 53; refine HON.out.mono ?_; rintro e w2 ⟨rfl, hw2⟩; replace hw2 := hw2.symm; subst hw2)
            exact ⟨⟨k + 1, by simp, by omega, HV, hid (HBR.out.alloc hz _)⟩, by simp [intOf]; omega⟩
        · have b2 : (ss[k].arg == msg) = false := by simp [h2]
          have HV : Hid (F ss.length 0 = F (ss.length - (k + 1)) (k + 1)) := hid (by rw [HFk.out, HN.out, if_neg (fun h => h2 h.2.1)])
          clear h1 h2 HN HFk HON
          go_wp2
          exact ⟨⟨k + 1, by simp, by omega, HV, hid (HBR.out.alloc hz _)⟩, by simp [intOf]; omega⟩
      · have b1 : (ss[k].kind == 5) = false := by simp [h1]
        have HV : Hid (F ss.length 0 = F (ss.length - (k + 1)) (k + 1)) := hid (by rw [HFk.out, HN.out, if_neg (fun h => h1 h.1)])
        clear h1 HN HFk HON
        go_wp2
        exact ⟨⟨k + 1, by simp, by omega, HV, hid (HBR.out.alloc hz _)⟩, by simp [intOf]; omega⟩
    · have HV : Hid (F ss.length 0 = none) := hid (by rw [HFk.out, show ss.length - k = 0 by omega, HF.out]; rfl)
      have q1 : ¬ (k : Int) < (ss.length : Int) := by omega
      clear HFk
      go_wp2
      go_ret2
      exact ⟨by rw [HV.out]; rfl, HBR.out⟩
end Kv
end Go.Proofs.YtpgbjpfpgbjbeaaGreatDoor
