/- Laid together: TxB, TxC. -/
import Derived.Test.YtnbmpofmieagfaaGreatDoorJFnProcs23
import Derived.Lib.SlBytesConst
import Derived.Deep.RegionWith
/- The specification's texts: l3Digits, l3Text, ExprText. -/
namespace Go.Proofs.YtnbmpofmieagfaaGreatDoor
open Go.RowKit
set_option linter.unusedVariables false
namespace Ex
open Nd (NodeD)
open Go.Lib (decDigits decDigits_one)
theorem dgNat {m : Nat} (h : m < 10) : ((UInt8.ofNat (48 + m)).toNat : Int) = 48 + (m : Int) := by rw [dig_toNat h]; omega
theorem conv1 (g m : Nat) (hm : m < 10) (w : World) (hc : w.cell? ⟨g, 0, none⟩ = some (.int .u8 (48 + (m : Int)))) : Sem.run Tryz.prog (convert 22 9 (.slice (some ⟨g, 0, none⟩) 1 1)) w = .ok (.string (str [UInt8.ofNat (48 + m)])) w := by
  refine run_convert_bytes_back (P := Tryz.prog) _ 22 9 5 ⟨g, 0, none⟩ 1 [UInt8.ofNat (48 + m)] Tryz.underlying22 Tryz.underlying5 Tryz.underlying9 ?_
  intro i hi
  obtain rfl : i = 0 := by simpa using hi
  simp only [Addr.add, Nat.add_zero, List.getElem_cons_zero]
  rw [dgNat hm]
  exact hc
set_option maxRecDepth 100000 in
set_option maxHeartbeats 4000000 in
theorem specDigits : ∀ (f n : Nat) (w : World), n < f → n ≤ 9999 → Calls Tryz.prog 60 #[.int .i64 (n : Int)] w fun e w' => e = .returned (.string (str (decDigits n))) ∧ Below w.heap.size w w'
  | 0, n, w, h, _ => by omega
  | f + 1, n, w, h, h9 => by
    by_cases h10 : n < 10
    · have HV : Hid (str (decDigits n) = str [UInt8.ofNat (48 + n)]) := hid (by rw [decDigits_one h10])
      have q1 : (n : Int) < 10 := by omega
      have HC := hid (conv1 w.heap.size n h10 (w.alloc (.cells #[.int .u8 (48 + (n : Int))] 5)) (by go_simp))
      have HB : Hid (Below w.heap.size w (w.alloc (.cells #[.int .u8 (48 + (n : Int))] 5))) := hid ((Below.refl _ w).alloc (Nat.le_refl _) _)
      clear h10
      generalize str [UInt8.ofNat (48 + n)] = ds at *
      go_enter Tryz.func60, Tryz.ntmps60
      go_wp2
      rw [HC.out]
      simp only [Result.andThen]
      rw [Oper.upon_value]
      go_wp2
      go_ret
      exact ⟨by rw [HV.out]; rfl, HB.out⟩
    · have IH : Hid (∀ (x : Int) (w : World), x = ((n / 10 : Nat) : Int) → Calls Tryz.prog 60 #[.int .i64 x] w fun e w' => e = .returned (.string (str (decDigits (n / 10)))) ∧ Below w.heap.size w w') := hid (fun x w hx => by rw [hx]; exact specDigits f (n / 10) w (by omega) (by omega))
      have HV : Hid (str (decDigits n) = str (decDigits (n / 10)) ++ str [UInt8.ofNat (48 + n % 10)]) := hid (by rw [str_app, ← dec_big h10])
      have q1 : ¬ (n : Int) < 10 := by omega
      have zl : (str (decDigits (n / 10))).size ≤ 4 := by rw [str_size]; exact dec_len 3 (n / 10) (by omega)
      have z1 : (str [UInt8.ofNat (48 + n % 10)]).size = 1 := rfl
      have ad1 := add_str (str (decDigits (n / 10))) (str [UInt8.ofNat (48 + n % 10)]) (by omega)
      have hbv : (IntKind.u8.wrap (IntKind.i64.wrap (48 + (n : Int).tmod 10))) = 48 + ((n % 10 : Nat) : Int) := by
        rw [IntKind.wrap_u8, IntWalk.i64_in _ (by rw [Int.tmod_eq_emod_of_nonneg (by omega)]; omega), Int.tmod_eq_emod_of_nonneg (by omega)]
        omega
      have HC : Hid (∀ (g : Nat) (w : World), w.cell? ⟨g, 0, none⟩ = some (.int .u8 (IntKind.u8.wrap (IntKind.i64.wrap (48 + (n : Int).tmod 10)))) → Sem.run Tryz.prog (convert 22 9 (.slice (some ⟨g, 0, none⟩) 1 1)) w = .ok (.string (str [UInt8.ofNat (48 + n % 10)])) w) := hid (fun g w h => conv1 g (n % 10) (by omega) w (by rw [h, hbv]))
      clear h10 zl z1 hbv
      generalize str [UInt8.ofNat (48 + n % 10)] = ds at *
      generalize str (decDigits (n / 10)) = dh at *
      have cvA : ∀ X : World, Sem.run Tryz.prog (convert 22 9 (.slice (some ⟨X.heap.size, 0, none⟩) 1 1)) (X.alloc (.cells #[.int .u8 (IntKind.u8.wrap (IntKind.i64.wrap (48 + (n : Int).tmod 10)))] 5)) = .ok (.string ds) (X.alloc (.cells #[.int .u8 (IntKind.u8.wrap (IntKind.i64.wrap (48 + (n : Int).tmod 10)))] 5)) := fun X => HC.out X.heap.size _ (by go_simp)
      have cvB : ∀ X : World, Sem.run Tryz.prog (convert 22 9 (.slice (some ⟨X.heap.size, 0, none⟩) 1 1)) (X.alloc (.cells #[.int .u8 (IntKind.u8.wrap (IntKind.i64.wrap (48 + (n : Int).tmod 10)))] 5)).drew = .ok (.string ds) (X.alloc (.cells #[.int .u8 (IntKind.u8.wrap (IntKind.i64.wrap (48 + (n : Int).tmod 10)))] 5)).drew := fun X => HC.out X.heap.size _ (by go_simp)
      have hd0 : Below w.heap.size w w.drew := (Below.refl _ w).drew
      have hd1 : Below w.heap.size w (w.alloc (.cells #[.int .u8 (IntKind.u8.wrap (IntKind.i64.wrap (48 + (n : Int).tmod 10)))] 5)).drew := ((Below.refl _ w).alloc (Nat.le_refl _) _).drew
      have hz1 : w.heap.size < (w.alloc (.cells #[.int .u8 (IntKind.u8.wrap (IntKind.i64.wrap (48 + (n : Int).tmod 10)))] 5)).drew.heap.size := by simp
      have hz2 : w.heap.size ≤ (w.alloc (.cells #[.int .u8 (IntKind.u8.wrap (IntKind.i64.wrap (48 + (n : Int).tmod 10)))] 5)).drew.heap.size := by simp
      have hcd : (w.alloc (.cells #[.int .u8 (IntKind.u8.wrap (IntKind.i64.wrap (48 + (n : Int).tmod 10)))] 5)).drew.cell? ⟨w.heap.size, 0, none⟩ = some (.int .u8 (IntKind.u8.wrap (IntKind.i64.wrap (48 + (n : Int).tmod 10)))) := by go_simp
      have b1 : (0 : Int) ≤ (n : Int) / 10 := by omega
      have b2 : (n : Int) / 10 ≤ 9999 := by omega
      have b3 : (0 : Int) ≤ (n : Int) % 10 := by omega
      have b4 : (n : Int) % 10 ≤ 9 := by omega
      go_enter Tryz.func60, Tryz.ntmps60
      go_wp2
      go_region_with (first
        | (go_at_call 60; refine (IH.out _ _ ?_).mono ?_; (first | rfl | (simp; done) | omega | (rw [IntWalk.i64_in _ (by omega)]; omega)); rintro e w2 ⟨rfl, hb2⟩; (first
             | (have hbw : Below w.heap.size w w2 := hd1.trans (hb2.mono hz2); have hcv := HC.out w.heap.size w2 (kept_cell hb2 hz1 hcd))
             | (have hbw : Below w.heap.size w w2 := hd0.trans (hb2.mono (Nat.le_refl _)))); clear hb2))
      all_goals (go_wp2; go_ret; exact ⟨by rw [HV.out]; rfl, by first | exact hbw | exact hbw.alloc hbw.size _⟩)
end Ex
end Go.Proofs.YtnbmpofmieagfaaGreatDoor
/- The specification's texts: l3Text, ExprText. -/
namespace Go.Proofs.YtnbmpofmieagfaaGreatDoor
open Go.RowKit
set_option linter.unusedVariables false
namespace Ex
open Nd (NodeD)
open Go.Lib (decDigits decDigits_one)
theorem inv_not {ns : List NodeD} {f k a : Nat} {t : Tm} (hk : nCode (NJ ns k) k = 0) (e : (NJ ns k).kind = 10) (h : termF ns (f + 1) k = some (t, a)) : ∃ t1, 1 ≤ k ∧ (NJ ns k).left = ((k - 1 : Nat) : Int) ∧ termF ns f (k - 1) = some (t1, a) ∧ t = .not t1 := by
  have hl := n_left hk (by omega)
  by_cases e2 : (NJ ns k).left = (k : Int) - 1
  · rw [t_not e e2] at h
    cases h1 : termF ns f (k - 1) with
    | none => rw [h1] at h; cases h
    | some p =>
      rw [h1] at h
      simp only [Option.map_some, Option.some.injEq, Prod.mk.injEq] at h
      exact ⟨p.1, by omega, by omega, by rw [← h.2], h.1.symm⟩
  · rw [t_not_none e e2] at h; cases h
theorem inv_pair {ns : List NodeD} {f k a : Nat} {t : Tm} (hok : ∀ k, k < ns.length → nCode (NJ ns k) k = 0) (hk : k < ns.length) (hf : k < f + 1) (e : two (NJ ns k).kind = true) (e2 : 3 ≤ (NJ ns k).kind) (e3 : (NJ ns k).kind ≤ 9) (h : termF ns (f + 1) k = some (t, a)) :
    ∃ l r b, 1 ≤ k ∧ 1 ≤ b ∧ b ≤ k - 1 ∧ (NJ ns k).right = ((k - 1 : Nat) : Int) ∧ (NJ ns k).left = ((b - 1 : Nat) : Int) ∧ termF ns f (k - 1) = some (r, b) ∧ termF ns f (b - 1) = some (l, a) ∧ t = .pair (NJ ns k).kind l r := by
  have hl := n_left (hok k hk) (by omega)
  have hr := n_right (hok k hk) e
  by_cases e4 : (NJ ns k).right = (k : Int) - 1
  · rw [t_pair ⟨e2, e3⟩ e4] at h
    cases h1 : termF ns f (k - 1) with
    | none => rw [h1] at h; cases h
    | some p =>
      obtain ⟨r, b⟩ := p
      have hb := (term_ok hok f (k - 1) r b (by omega) (by omega) h1).1
      rw [h1, Option.bind_some] at h
      simp only at h
      by_cases e5 : (NJ ns k).left = (b : Int) - 1
      · rw [if_pos e5] at h
        cases h2 : termF ns f (b - 1) with
        | none => rw [h2] at h; cases h
        | some q =>
          rw [h2] at h
          simp only [Option.map_some, Option.some.injEq, Prod.mk.injEq] at h
          exact ⟨q.1, r, b, by omega, by omega, by omega, by omega, by omega, rfl, by rw [h2, ← h.2], h.1.symm⟩
      · rw [if_neg e5] at h; cases h
  · rw [t_pair_none ⟨e2, e3⟩ e4] at h; cases h
theorem slice3 {k : Int} (h : k = 3 ∨ k = 4 ∨ k = 5 ∨ k = 6 ∨ k = 7 ∨ k = 8 ∨ k = 9) (w : World) : Sem.run Tryz.prog (Instr.slice 9 (.string ⟨#[43, 45, 42, 47, 60, 61, 38]⟩) (some (.int .i64 (IntKind.i64.wrap (k - 3)))) (some (.int .i64 (IntKind.i64.wrap (IntKind.i64.wrap (k - 3) + 1)))) none) w = .ok (.string (str [signOf k])) w := by
  rcases h with rfl | rfl | rfl | rfl | rfl | rfl | rfl <;> kernel_rfl
set_option maxRecDepth 100000 in
set_option maxHeartbeats 8000000 in
theorem specText (ns : List NodeD) (v : Value) (B0 : Nat) (hok : ∀ k, k < ns.length → nCode (NJ ns k) k = 0) (hns : ns.length ≤ 16) : ∀ (f k : Nat) (t : Tm) (a : Nat) (w : World), k < ns.length → k < f → termF ns f k = some (t, a) → Nd.At w B0 v ns →
    Calls Tryz.prog 88 #[v, .int .i64 (k : Int)] w fun e w' => e = .returned (.string (str t.txt)) ∧ Below w.heap.size w w'
  | 0, k, t, a, w, hk, hf, h, ha => by omega
  | f + 1, k, t, a, w, hk, hf, h, ha => by
    obtain ⟨a0, cap, rfl⟩ := ha.slice
    have HA := hid ha
    have hnk := hok k hk
    have HNJ := hid (NJ_eq hk)
    obtain ⟨hak, htok, htsz⟩ := term_ok hok (f + 1) k t a hk hf h
    obtain ⟨g, o, rfl, hg, c0, c1, c2, c3⟩ := ha.at hk
    have q0 : (k : Int) < (ns.length : Int) := by omega
    have hb0 : Below w.heap.size w (w.alloc (.cells #[.int .i64 ns[k].kind, .int .i64 ns[k].value, .int .i64 ns[k].left, .int .i64 ns[k].right] 110)) := (Below.refl _ w).alloc (Nat.le_refl _) _
    rcases kinds hnk with e | e | e | ⟨e1, e2, e3⟩
    · rw [t_const e] at h
      cases h
      have hv := v_const hnk e
      rw [HNJ.out] at e hv ⊢
      rw [e] at c0 hb0
      obtain ⟨j, hj⟩ : ∃ j : Nat, ns[k].value = (j : Int) := ⟨ns[k].value.toNat, by omega⟩
      have HD := hid (fun w => specDigits (j + 1) j w (by omega) (by omega))
      rw [hj] at c1 hb0 ⊢
      have HB := hid hb0
      have HS : Hid (str (Tm.const (j : Int)).txt = str (decDigits j)) := hid (by simp [Tm.txt])
      rw [HS.out]
      clear hnk e hb0 hv hj hok ha htok htsz hak HS
      generalize str (decDigits j) = ds at *
      go_enter Tryz.func88, Tryz.ntmps88
      go_wp2_with fail
      refine (HD.out _).mono ?_
      rintro e w1 ⟨rfl, hb1⟩
      go_wp2
      go_ret
      exact ⟨rfl, HB.out.trans (hb1.mono HB.out.size)⟩
    · rw [t_var e] at h
      cases h
      have hv := v_var hnk e
      rw [HNJ.out] at e hv ⊢
      rw [e] at c0 hb0
      obtain ⟨j, hj⟩ : ∃ j : Nat, ns[k].value = (j : Int) := ⟨ns[k].value.toNat, by omega⟩
      have HD := hid (fun w => specDigits (j + 1) j w (by omega) (by omega))
      have hl := dec_len 0 j (by omega)
      have ad1 := add_str (ByteArray.mk #[118]) (str (decDigits j)) (by rw [str_size]; have z : (ByteArray.mk #[118]).size = 1 := rfl; omega)
      rw [hj] at c1 hb0 ⊢
      have HB := hid hb0
      have HS : Hid (str (Tm.var (j : Int)).txt = ByteArray.mk #[118] ++ str (decDigits j)) := hid (by
        have e118 : ByteArray.mk #[118] = str [118] := rfl
        rw [e118, str_app]; simp [Tm.txt])
      rw [HS.out]
      clear hnk e hb0 hv hj hok ha htok htsz hak HS hl
      generalize str (decDigits j) = ds at *
      go_enter Tryz.func88, Tryz.ntmps88
      go_wp2_with fail
      refine (HD.out _).mono ?_
      rintro e w1 ⟨rfl, hb1⟩
      go_wp2
      go_ret
      exact ⟨rfl, HB.out.trans (hb1.mono HB.out.size)⟩
    · obtain ⟨t1, hk1, hle, ht1, rfl⟩ := inv_not hnk e h
      have hA1 := ha.below hb0
      have IH := hid (specText ns _ B0 hok hns f (k - 1) t1 a _ (by omega) (by omega) ht1 hA1)
      rw [HNJ.out] at e hle
      rw [← hle] at IH
      rw [e] at c0 hb0 IH
      have hl := txt_len t1 (near_of_ok htok.1)
      have hsz : t1.size ≤ 16 := by simp only [Tm.size] at htsz; omega
      have ad1 := add_str (ByteArray.mk #[33]) (str t1.txt) (by rw [str_size]; have z : (ByteArray.mk #[33]).size = 1 := rfl; omega)
      have HB := hid hb0
      have HS : Hid (str (Tm.not t1).txt = ByteArray.mk #[33] ++ str t1.txt) := hid (by
        have e33 : ByteArray.mk #[33] = str [33] := rfl
        rw [e33, str_app]; simp [Tm.txt])
      rw [HS.out]
      clear hnk e hb0 hle hok ha htok htsz hak HS hl hsz hA1 h ht1
      generalize str t1.txt = ds at *
      go_enter Tryz.func88, Tryz.ntmps88
      go_wp2_with fail
      refine IH.out.mono ?_
      rintro e w1 ⟨rfl, hb1⟩
      go_wp2
      go_ret
      exact ⟨rfl, HB.out.trans (hb1.mono HB.out.size)⟩
    · obtain ⟨l, r, b, hk1, hb1, hbk, hri, hle, hr1, hl1, rfl⟩ := inv_pair hok hk hf e1 e2 e3 h
      have hne : ¬ ns[k].right = ns[k].left := by rw [HNJ.out] at hri hle; omega
      have HC : Hid (∀ (x : Int) (w' : World), x = ns[k].left ∨ x = ns[k].right → Nd.At w' B0 (.slice (some ⟨g, o, none⟩) ns.length cap) ns → Calls Tryz.prog 88 #[.slice (some ⟨g, o, none⟩) ns.length cap, .int .i64 x] w' fun e w'' => e = .returned (.string (if x = ns[k].left then str l.txt else str r.txt)) ∧ Below w'.heap.size w' w'') := hid (fun x w' hx hA' => by
        rw [HNJ.out] at hri hle
        rcases hx with rfl | rfl
        · rw [if_pos rfl, hle]; exact specText ns _ B0 hok hns f (b - 1) _ a w' (by omega) (by omega) hl1 hA'
        · rw [if_neg hne, hri]; exact specText ns _ B0 hok hns f (k - 1) _ b w' (by omega) (by omega) hr1 hA')
      have hll := txt_len l (near_of_ok htok.1.2.2.1)
      have hlr := txt_len r (near_of_ok htok.1.2.2.2)
      simp only [Tm.size] at htsz
      rw [HNJ.out] at e1 e2 e3 ⊢
      have zl : (str l.txt).size ≤ 100 := by rw [str_size]; omega
      have zr : (str r.txt).size ≤ 100 := by rw [str_size]; omega
      have z40 : (ByteArray.mk #[40]).size = 1 := rfl
      have z41 : (ByteArray.mk #[41]).size = 1 := rfl
      have zs : (str [signOf ns[k].kind]).size = 1 := rfl
      have ad1 := add_str (ByteArray.mk #[40]) (str l.txt) (by omega)
      have ad2 := add_str (ByteArray.mk #[40] ++ str l.txt) (str [signOf ns[k].kind]) (by simp only [ByteArray.size_append]; omega)
      have ad3 := add_str (ByteArray.mk #[40] ++ str l.txt ++ str [signOf ns[k].kind]) (str r.txt) (by simp only [ByteArray.size_append]; omega)
      have ad4 := add_str (ByteArray.mk #[40] ++ str l.txt ++ str [signOf ns[k].kind] ++ str r.txt) (ByteArray.mk #[41]) (by simp only [ByteArray.size_append]; omega)
      have HE : Hid (str (Tm.pair ns[k].kind l r).txt = ByteArray.mk #[40] ++ str l.txt ++ str [signOf ns[k].kind] ++ str r.txt ++ ByteArray.mk #[41]) := hid (by
        have e40 : ByteArray.mk #[40] = str [40] := rfl
        have e41 : ByteArray.mk #[41] = str [41] := rfl
        rw [e40, e41, str_app, str_app, str_app, str_app]
        simp [Tm.txt])
      rw [HE.out]
      have hkk : ns[k].kind = 3 ∨ ns[k].kind = 4 ∨ ns[k].kind = 5 ∨ ns[k].kind = 6 ∨ ns[k].kind = 7 ∨ ns[k].kind = 8 ∨ ns[k].kind = 9 := by omega
      have hsl := slice3 hkk
      have d1 : (ns[k].kind == 1) = false := beq_eq_false_iff_ne.2 (by omega)
      have d2 : (ns[k].kind == 2) = false := beq_eq_false_iff_ne.2 (by omega)
      have d3 : (ns[k].kind == 10) = false := beq_eq_false_iff_ne.2 (by omega)
      have HA1 := hid (fun w' (h : Below w.heap.size w w') => ha.below h)
      clear hnk hok ha htok htsz hak hri hle hr1 hl1 h hll hlr zl zr z40 z41 zs hkk HE HA hb1 hbk hk1 HNJ e1
      generalize str [signOf ns[k].kind] = sg at *
      generalize ns[k] = nd at *
      have m0 : (w.alloc (.cells #[.int .i64 nd.kind, .int .i64 nd.value, .int .i64 nd.left, .int .i64 nd.right] 110)).drew.cell? ⟨w.heap.size, 0, none⟩ = some (.int .i64 nd.kind) := by go_simp
      have m2 : (w.alloc (.cells #[.int .i64 nd.kind, .int .i64 nd.value, .int .i64 nd.left, .int .i64 nd.right] 110)).drew.cell? ⟨w.heap.size, 2, none⟩ = some (.int .i64 nd.left) := by go_simp
      have m3 : (w.alloc (.cells #[.int .i64 nd.kind, .int .i64 nd.value, .int .i64 nd.left, .int .i64 nd.right] 110)).drew.cell? ⟨w.heap.size, 3, none⟩ = some (.int .i64 nd.right) := by go_simp
      have hZ0 : w.heap.size < (w.alloc (.cells #[.int .i64 nd.kind, .int .i64 nd.value, .int .i64 nd.left, .int .i64 nd.right] 110)).drew.heap.size := by simp
      have hB0 := hb0.drew
      have M0 := hid m0
      have M2 := hid m2
      have M3 := hid m3
      clear m0 m2 m3
      go_enter Tryz.func88, Tryz.ntmps88
      go_wp2
      have m0 := M0.out
      have m2 := M2.out
      have m3 := M3.out
      clear M0 M2 M3 hb0 c0 c1 c2 c3
      generalize w.alloc (.cells #[.int .i64 nd.kind, .int .i64 nd.value, .int .i64 nd.left, .int .i64 nd.right] 110) = WA at *
      go_region_held3 (fun wx => wx.cell? ⟨w.heap.size, 0, none⟩ = some (.int .i64 nd.kind) ∧ wx.cell? ⟨w.heap.size, 2, none⟩ = some (.int .i64 nd.left) ∧ wx.cell? ⟨w.heap.size, 3, none⟩ = some (.int .i64 nd.right) ∧ Below w.heap.size w wx ∧ w.heap.size < wx.heap.size) (refine ⟨?_, ?_, ?_, ?_, ?_⟩ <;> first | assumption | (simp [*]; done)) (first
        | (go_at_call 88; refine (HC.out _ _ ?_ (HA1.out _ ?_)).mono ?_; (first | exact .inl rfl | exact .inr rfl); assumption; rintro e w4 ⟨rfl, hb4⟩; (first | rw [if_pos rfl] | rw [if_neg hne]); have hk4 := kept_cell (b := w.heap.size) (o := 0) (v := .int .i64 nd.kind) hb4 (by assumption) (by assumption); have hk5 := kept_cell (b := w.heap.size) (o := 2) (v := .int .i64 nd.left) hb4 (by assumption) (by assumption); have hk6 := kept_cell (b := w.heap.size) (o := 3) (v := .int .i64 nd.right) hb4 (by assumption) (by assumption); have hZ4 : w.heap.size < w4.heap.size := Nat.lt_of_lt_of_le (by assumption) hb4.size; have hB4 : Below w.heap.size w w4 := Below.trans (by assumption) (hb4.mono (Nat.le_of_lt (by assumption)))))
      go_wp2
      go_ret
      exact ⟨rfl, by assumption⟩
end Ex
end Go.Proofs.YtnbmpofmieagfaaGreatDoor
