/-
  The law RationalTextMatchesReference: its walk.
-/
import Derived.Test.YtappobhpdpfojaaGreatQk
namespace Go.Proofs.YtappobhpdpfojaaGreat
set_option maxRecDepth 1000000
namespace Rt
open Go.RowKit Go.Proofs.YtappobhpdpfojaaGreat.Nm
open N10 (Two)

theorem idx_none : ∀ (l : List UInt8), (∀ b ∈ l, b ≠ 47) → Lib.indexByte l 47 = -1
  | [], _ => rfl
  | b :: l, h => by
    have h1 : (b == 47) = false := by rw [beq_eq_false_iff_ne]; exact h b (List.mem_cons_self ..)
    rw [Lib.indexByte, h1, idx_none l (fun x hx => h x (List.mem_cons_of_mem _ hx))]; rfl
theorem idx_app : ∀ (l r : List UInt8), (∀ b ∈ l, b ≠ 47) → Lib.indexByte (l ++ 47 :: r) 47 = (l.length : Int)
  | [], _, _ => rfl
  | b :: l, r, h => by
    have h1 : (b == 47) = false := by rw [beq_eq_false_iff_ne]; exact h b (List.mem_cons_self ..)
    have h2 := idx_app l r (fun x hx => h x (List.mem_cons_of_mem _ hx))
    have h3 : ((l.length : Int) == -1) = false := by rw [beq_eq_false_iff_ne]; omega
    rw [List.cons_append, Lib.indexByte, h1, h2, h3, List.length_cons]
    simp
theorem txt_noslash (z : Int) : ∀ b ∈ (txt z).data.toList, b ≠ 47 := by
  intro b hb e
  have hm : b.toNat ∈ bl (txt z) := by
    rw [show bl (txt z) = (txt z).data.toList.map UInt8.toNat from rfl]
    exact List.mem_map_of_mem hb
  rw [e, show (47 : UInt8).toNat = 47 from rfl] at hm
  by_cases h : 0 ≤ z
  · have := (N10.txt_nonneg z h).1 47 hm
    omega
  · obtain ⟨D, h1, h2, -⟩ := N10.txt_negS z (by omega)
    rw [h1] at hm
    rcases List.mem_cons.1 hm with h3 | h3
    · omega
    · have := h2 47 h3; omega
theorem app_left (a b : ByteArray) : (a ++ b).extract 0 a.size = a := by
  apply bl_inj
  rw [Go.Proofs.YtappobhpdpfojaaGreat.bl_extract, bl_append, List.drop_zero, ← bl_len a, List.take_left]
theorem app_right (a b : ByteArray) : (a ++ b).extract a.size (a ++ b).size = b := by
  apply bl_inj
  rw [Go.Proofs.YtappobhpdpfojaaGreat.bl_extract, bl_append, List.take_of_length_le (by rw [List.length_append, bl_len, bl_len, ByteArray.size_append]; exact Nat.le_refl _), ← bl_len a, List.drop_left]
theorem twoS_one {a : ByteArray} (h : ∀ b ∈ a.data.toList, b ≠ 47) : twoS a = (a, ⟨#[49]⟩) := by
  have hs : slash a = -1 := idx_none _ h
  rw [twoS, cutS, if_pos hs]; rfl
theorem twoS_two {a b : ByteArray} (h : ∀ x ∈ a.data.toList, x ≠ 47) : twoS (a ++ ⟨#[47]⟩ ++ b) = (a, b) := by
  have hl : (a ++ ⟨#[47]⟩ ++ b).data.toList = a.data.toList ++ 47 :: b.data.toList := by simp
  have hs : slash (a ++ ⟨#[47]⟩ ++ b) = (a.size : Int) := by
    rw [slash, hl, idx_app _ _ h]; rfl
  have e1 : (a ++ ⟨#[47]⟩ ++ b).extract 0 a.size = a := by
    have := app_left a (⟨#[47]⟩ ++ b)
    rwa [← ByteArray.append_assoc] at this
  have e2 : (a ++ ⟨#[47]⟩ ++ b).extract (a.size + 1) (a ++ ⟨#[47]⟩ ++ b).size = b := by
    have := app_right (a ++ ⟨#[47]⟩) b
    rwa [ByteArray.size_append, show (⟨#[47]⟩ : ByteArray).size = 1 from rfl] at this
  rw [twoS, cutS, if_neg (by omega), hs, Int.toNat_natCast]
  show ((a ++ ⟨#[47]⟩ ++ b).extract 0 a.size, (a ++ ⟨#[47]⟩ ++ b).extract (a.size + 1) (a ++ ⟨#[47]⟩ ++ b).size) = _
  rw [e1, e2]
/-- the text of a fraction has its parts -/
theorem twoS_print {q : Rat} (h : FitQ q) : twoS (printR (txt q.num) (txt (q.den : Int))) = (txt q.num, txt (q.den : Int)) := by
  rw [printR, qOf_txt h, if_pos (show (some q).isSome = true from rfl)]
  by_cases h1 : txt (q.den : Int) = ⟨#[49]⟩
  · rw [if_pos h1, twoS_one (txt_noslash _), h1]
  · rw [if_neg h1, twoS_two (txt_noslash _)]
/-- Parse asks whether the parts are a fraction whose text it is -/
theorem parseR_eq (s : ByteArray) : parseR s = if (qOf (twoS s).1 (twoS s).2).isSome && decide (printR (twoS s).1 (twoS s).2 = s) then some (twoS s) else none := by
  obtain ⟨n, d, hnd⟩ : ∃ n d, twoS s = (n, d) := ⟨_, _, rfl⟩
  rw [parseR, hnd]
  show (match redR n d with | some (a, b) => if printR a b = s then some (a, b) else none | none => none) = if (qOf n d).isSome && decide (printR n d = s) then some (n, d) else none
  cases hq : qOf n d with
  | some q =>
    obtain ⟨rfl, rfl, hf⟩ := qOf_some hq
    rw [red_q hf.1 hf.2 (den_ne q), Rat.num_divInt_den]
    show (if printR (txt q.num) (txt (q.den : Int)) = s then _ else _) = _
    by_cases hp : printR (txt q.num) (txt (q.den : Int)) = s
    · rw [if_pos hp, if_pos (by simpa using hp)]
    · rw [if_neg hp, if_neg (by simpa using hp)]
  | none =>
    show _ = none
    cases hr : redR n d with
    | none => rfl
    | some p =>
      obtain ⟨a, b⟩ := p
      show (if printR a b = s then some (a, b) else none) = none
      rw [if_neg]
      intro hp
      rcases N10.both n d with ⟨x, y, rfl, rfl, hx, hy⟩ | h
      · by_cases h0 : y = 0
        · rw [red_q0 hy h0] at hr; cases hr
        · rw [red_q hx hy h0] at hr
          injection hr with hr
          injection hr with ha hb
          subst ha hb
          have hf := FitQ.div hx hy h0
          have := twoS_print hf
          rw [hp, hnd] at this
          injection this with e1 e2
          rw [e1, e2, qOf_txt hf] at hq
          cases hq
      · rw [redR, opGcd, op2_bad (N10.nb h)] at hr; cases hr
end Rt
end Go.Proofs.YtappobhpdpfojaaGreat
namespace Go.Proofs.YtappobhpdpfojaaGreat
set_option maxRecDepth 1000000
namespace Rt
open Go.RowKit Go.Proofs.YtappobhpdpfojaaGreat.Nm
open N10 (Two)

theorem twoS_hit {s : ByteArray} {k : Nat} (hk : k < s.size) (h1 : s[k].toNat = 47) (h2 : ∀ j, j < k → (bl s).getD j 0 ≠ 47) : twoS s = (s.extract 0 k, s.extract (k + 1) s.size) := by
  have hk' : k < s.data.toList.length := hk
  have hg : s.data.toList[k] = 47 := UInt8.toNat_inj.1 h1
  have e : s.data.toList = s.data.toList.take k ++ 47 :: s.data.toList.drop (k + 1) := by
    conv => lhs; rw [← List.take_append_drop k s.data.toList, List.drop_eq_getElem_cons hk', hg]
  have hn : ∀ b ∈ s.data.toList.take k, b ≠ 47 := by
    intro b hb e2
    obtain ⟨j, hj, hjb⟩ := List.getElem_of_mem hb
    rw [List.length_take] at hj
    have hj1 : j < k := by omega
    have hj2 : j < s.size := by omega
    refine h2 j hj1 ?_
    rw [bl_get s j hj2]
    have : s[j] = 47 := by rw [← e2, ← hjb, List.getElem_take]; rfl
    rw [this]; rfl
  have hs : slash s = (k : Int) := by
    have hx : Lib.indexByte (s.data.toList.take k ++ 47 :: s.data.toList.drop (k + 1)) 47 = ((s.data.toList.take k).length : Int) := idx_app _ _ hn
    rw [← e, List.length_take] at hx
    rw [slash, hx]; omega
  rw [twoS, cutS, if_neg (by omega), hs, Int.toNat_natCast]; rfl
theorem twoS_miss {s : ByteArray} (h2 : ∀ j, j < s.size → (bl s).getD j 0 ≠ 47) : twoS s = (s, ⟨#[49]⟩) := by
  refine twoS_one ?_
  intro b hb e2
  obtain ⟨j, hj, hjb⟩ := List.getElem_of_mem hb
  have hj2 : j < s.size := hj
  refine h2 j hj2 ?_
  rw [bl_get s j hj2]
  have : s[j] = 47 := by rw [← e2, ← hjb]; rfl
  rw [this]; rfl
set_option maxHeartbeats 4000000 in
theorem ParseR_all (s : ByteArray) (hs : s.size ≤ 1000000) (w : World) : Calls Tryz.prog 35 #[.string s] w fun e w' => e = .returned (bR (parseR s)) ∧ Below w.heap.size w w' := by
  have inj : Shut (∀ a b : ByteArray, a.toList = b.toList → a = b) := ⟨fun a b h => by
    have := str_eq a b
    rw [h] at this
    simpa using this.symm⟩
  go_enter Tryz.func35, Tryz.ntmps35
  have n_r := res_old w (.cells #[.string ⟨#[]⟩, .string ⟨#[]⟩] 23) (.cells #[.string s, .string ⟨#[49]⟩] 23)
  have n_b := res_two w (.cells #[.string ⟨#[]⟩, .string ⟨#[]⟩] 23) (.cells #[.string s, .string ⟨#[49]⟩] 23)
  have u := ((Below.refl w.heap.size w).alloc (Nat.le_refl _) (.cells #[.string ⟨#[]⟩, .string ⟨#[]⟩] 23)).alloc (by simp) (.cells #[.string s, .string ⟨#[49]⟩] 23)
  go_wp2_with fail
  generalize ((w.alloc (.cells #[.string ⟨#[]⟩, .string ⟨#[]⟩] 23)).alloc (.cells #[.string s, .string ⟨#[49]⟩] 23)) = W0 at *
  obtain ⟨b, hb⟩ : ∃ b, b = w.heap.size := ⟨_, rfl⟩
  have HBW : Shut (w.heap.size ≤ b) := ⟨by omega⟩
  rw [← hb] at n_r n_b
  rw [← hb]
  clear hb
  have HU : Shut _ := ⟨u⟩
  have NR : Shut _ := ⟨n_r⟩
  have NB : Shut _ := ⟨n_b⟩
  clear u n_r n_b
  go_loopw [5] (fun iv wr => ∃ k : Nat, k ≤ s.size ∧ iv = .int .i64 (k : Int) ∧ Shut (∀ j, j < k → (bl s).getD j 0 ≠ 47) ∧ wr = W0) (fun iv _ => s.size - (intOf iv).toNat)
  case atStart => exact ⟨0, Nat.zero_le _, rfl, ⟨fun j hj => by omega⟩, rfl⟩
  case round =>
    obtain ⟨k, hk, rfl, HJ, rfl⟩ := hrel
    by_cases hlt : k < s.size
    · by_cases h47 : s[k].toNat = 47
      · have h2S := twoS_hit hlt h47 HJ.o
        have hn1 : (s.extract 0 k).size ≤ 1000000 := by rw [ByteArray.size_extract]; omega
        have hn2 : (s.extract (k + 1) s.size).size ≤ 1000000 := by rw [ByteArray.size_extract]; omega
        have hb47 : (((s[k].toNat : Nat) : Int) == 47) = true := by rw [h47]; rfl
        have hi0 : (0 : Int) ≤ (k : Int) := by omega
        have hi1 : (k : Int) ≤ (s.size : Int) := by omega
        have hi2 : (k : Int) + 1 ≤ (s.size : Int) := by omega
        have hw : IntKind.i64.wrap ((k : Int) + 1) = (k : Int) + 1 := i64_ok (by omega) (by omega)
        have hi3 : (0 : Int) ≤ (k : Int) + 1 := by omega
        have hi4 : ((k : Int) + 1).toNat = k + 1 := by omega
        have ⟨y0, y1, y2, y3⟩ := cell_box NB.o
        clear HJ
        go_wp2_with fail
        go_region
        generalize hn : s.extract 0 k = n at *
        generalize hd : s.extract (k + 1) s.size = d at *
        have u := (HU.o.setCell (p := ⟨b + 1, 0, none⟩) (Nat.le_succ_of_le HBW.o) (.string n)).setCell (p := ⟨b + 1, 1, none⟩) (Nat.le_succ_of_le HBW.o) (.string d)
        have n_b : (((wr.setCell ⟨b + 1, 0, none⟩ (.string n)).setCell ⟨b + 1, 1, none⟩ (.string d)).drew).heap[b + 1]? = _ := box_set (u := .string n) (v := .string d) NB.o
        have n_r : (((wr.setCell ⟨b + 1, 0, none⟩ (.string n)).setCell ⟨b + 1, 1, none⟩ (.string d)).drew).heap[b]? = _ := box_other (b := b + 1) (u := .string n) (v := .string d) NR.o (by omega)
        have u := u.drew
        generalize ((wr.setCell ⟨b + 1, 0, none⟩ (.string n)).setCell ⟨b + 1, 1, none⟩ (.string d)).drew = W1 at *
        clear HU NR NB y0 y1 y2 y3 hn hd hw hi0 hi1 hi2 hi3 hi4 hb47 h47
        obtain ⟨bb, hbb⟩ : ∃ bb, bb = (qOf n d).isSome := ⟨_, rfl⟩
        obtain ⟨p, hp⟩ : ∃ p, p = printR n d := ⟨_, rfl⟩
        have cV := two_VR n d hn1 hn2
        have cP : Two 34 #[.agg #[.string n, .string d]] (.string p) := fun W => by rw [hp]; exact PrintR_all n d hn1 hn2 W
        rw [← hbb] at cV
        have HR : Shut ((bb = false → bR (parseR s) = .tuple #[.agg #[.string ⟨#[]⟩, .string ⟨#[]⟩], .int .i64 40]) ∧ (bb = true → p = s → bR (parseR s) = .tuple #[.agg #[.string n, .string d], .int .i64 0]) ∧ (p ≠ s → bR (parseR s) = .tuple #[.agg #[.string ⟨#[]⟩, .string ⟨#[]⟩], .int .i64 40])) := ⟨by
          rw [parseR_eq, h2S, ← hbb, ← hp]
          refine ⟨fun h => ?_, fun h h2 => ?_, fun h => ?_⟩
          · rw [h]; rfl
          · rw [h, decide_eq_true h2]; rfl
          · rw [decide_eq_false h, Bool.and_false]; rfl⟩
        clear hbb hp h2S hn1 hn2
        have ⟨x0, x1, x2, x3⟩ := cell_box n_r
        have ⟨y0, y1, y2, y3⟩ := cell_box n_b
        cases bb with
        | false =>
          have hR := HR.o.1 rfl
          go_wp2_with (first | (go_at_call 29; with_reducible refine (cV.run _).mono ?_; rintro e w1 ⟨rfl, g1⟩; have u1 := u.trans (g1.mono u.size); have r1 := lkeep n_r g1; have b1 := lkeep n_b g1; obtain ⟨x0, x1, x2, x3⟩ := cell_box r1; obtain ⟨y0, y1, y2, y3⟩ := cell_box b1) | fail)
          have k0 := cell_two w1 b (.string ⟨#[]⟩) (.string ⟨#[]⟩) _ _ x0 x1
          refine bodyPost_ret (v := .tuple #[.agg #[(.string ⟨#[]⟩), (.string ⟨#[]⟩)], .int .i64 40]) (by simp [results, Tryz.results35, go_sem, k0.1, k0.2]) rfl ⟨by rw [hR], (u1.setCell (by exact HBW.o) _).setCell (by exact HBW.o) _⟩
        | true =>
          by_cases hp : p = s
          · have hR := HR.o.2.1 rfl hp
            have hp2 : p.toList = s.toList := by rw [hp]
            clear hp
            go_wp2_with (first | (go_at_call 29; with_reducible refine (cV.run _).mono ?_; rintro e w1 ⟨rfl, g1⟩; have u1 := u.trans (g1.mono u.size); have r1 := lkeep n_r g1; have b1 := lkeep n_b g1; obtain ⟨x0, x1, x2, x3⟩ := cell_box r1; obtain ⟨y0, y1, y2, y3⟩ := cell_box b1) | (go_at_call 34; with_reducible refine (cP.run _).mono ?_; rintro e w2 ⟨rfl, g2⟩; have u2 := u1.trans (g2.mono u1.size); have r2 := lkeep r1 g2; have b2 := lkeep b1 g2; obtain ⟨x0, x1, x2, x3⟩ := cell_box r2; obtain ⟨y0, y1, y2, y3⟩ := cell_box b2) | fail)
            have k0 := cell_two w2 b (.string n) (.string d) _ _ x0 x1
            refine bodyPost_ret (v := .tuple #[.agg #[(.string n), (.string d)], .int .i64 0]) (by simp [results, Tryz.results35, go_sem, k0.1, k0.2]) rfl ⟨by rw [hR], (u2.setCell (by exact HBW.o) _).setCell (by exact HBW.o) _⟩
          · have hR := HR.o.2.2 hp
            have hp2 : (p.toList == s.toList) = false := beq_eq_false_iff_ne.2 fun e => hp (inj.o _ _ e)
            clear hp
            go_wp2_with (first | (go_at_call 29; with_reducible refine (cV.run _).mono ?_; rintro e w1 ⟨rfl, g1⟩; have u1 := u.trans (g1.mono u.size); have r1 := lkeep n_r g1; have b1 := lkeep n_b g1; obtain ⟨x0, x1, x2, x3⟩ := cell_box r1; obtain ⟨y0, y1, y2, y3⟩ := cell_box b1) | (go_at_call 34; with_reducible refine (cP.run _).mono ?_; rintro e w2 ⟨rfl, g2⟩; have u2 := u1.trans (g2.mono u1.size); have r2 := lkeep r1 g2; have b2 := lkeep b1 g2; obtain ⟨x0, x1, x2, x3⟩ := cell_box r2; obtain ⟨y0, y1, y2, y3⟩ := cell_box b2) | fail)
            have k0 := cell_two w2 b (.string ⟨#[]⟩) (.string ⟨#[]⟩) _ _ x0 x1
            refine bodyPost_ret (v := .tuple #[.agg #[(.string ⟨#[]⟩), (.string ⟨#[]⟩)], .int .i64 40]) (by simp [results, Tryz.results35, go_sem, k0.1, k0.2]) rfl ⟨by rw [hR], (u2.setCell (by exact HBW.o) _).setCell (by exact HBW.o) _⟩
      · have hb47 : (((s[k].toNat : Nat) : Int) == 47) = false := by rw [beq_eq_false_iff_ne]; omega
        have HJ2 : Shut (∀ j, j < k + 1 → (bl s).getD j 0 ≠ 47) := ⟨fun j hj => by
          by_cases h : j = k
          · rw [h, bl_get s k hlt]; exact h47
          · exact HJ.o j (by omega)⟩
        clear h47 HJ
        go_wp2_with fail
        go_roundw
        case rel => exact ⟨k + 1, by omega, by go_num, HJ2, by first | rfl | trivial⟩
        case measure => simp [intOf]; omega
    · obtain rfl : k = s.size := by omega
      have h2S := twoS_miss HJ.o
      have u := HU.o
      have n_r := NR.o
      have n_b := NB.o
      clear HU NR NB HJ
      obtain ⟨n, hnn⟩ : ∃ n, n = s := ⟨_, rfl⟩
      obtain ⟨d, hdd⟩ : ∃ d, d = (⟨#[49]⟩ : ByteArray) := ⟨_, rfl⟩
      have hn1 : n.size ≤ 1000000 := by rw [hnn]; exact hs
      have hn2 : d.size ≤ 1000000 := by rw [hdd]; decide
      rw [← hdd] at h2S n_b
      have h2S : twoS s = (n, d) := by rw [hnn]; exact h2S
      have n_b : wr.heap[b + 1]? = some (.cells #[.string n, .string d] 23 (0, 0)) := by rw [hnn]; exact n_b
      clear hnn hdd
      obtain ⟨bb, hbb⟩ : ∃ bb, bb = (qOf n d).isSome := ⟨_, rfl⟩
      obtain ⟨p, hp⟩ : ∃ p, p = printR n d := ⟨_, rfl⟩
      have cV := two_VR n d hn1 hn2
      have cP : Two 34 #[.agg #[.string n, .string d]] (.string p) := fun W => by rw [hp]; exact PrintR_all n d hn1 hn2 W
      rw [← hbb] at cV
      have HR : Shut ((bb = false → bR (parseR s) = .tuple #[.agg #[.string ⟨#[]⟩, .string ⟨#[]⟩], .int .i64 40]) ∧ (bb = true → p = s → bR (parseR s) = .tuple #[.agg #[.string n, .string d], .int .i64 0]) ∧ (p ≠ s → bR (parseR s) = .tuple #[.agg #[.string ⟨#[]⟩, .string ⟨#[]⟩], .int .i64 40])) := ⟨by
        rw [parseR_eq, h2S, ← hbb, ← hp]
        refine ⟨fun h => ?_, fun h h2 => ?_, fun h => ?_⟩
        · rw [h]; rfl
        · rw [h, decide_eq_true h2]; rfl
        · rw [decide_eq_false h, Bool.and_false]; rfl⟩
      clear hbb hp h2S hn1 hn2
      have ⟨x0, x1, x2, x3⟩ := cell_box n_r
      have ⟨y0, y1, y2, y3⟩ := cell_box n_b
      cases bb with
      | false =>
        have hR := HR.o.1 rfl
        go_wp2_with (first | (go_at_call 29; with_reducible refine (cV.run _).mono ?_; rintro e w1 ⟨rfl, g1⟩; have u1 := u.trans (g1.mono u.size); have r1 := lkeep n_r g1; have b1 := lkeep n_b g1; obtain ⟨x0, x1, x2, x3⟩ := cell_box r1; obtain ⟨y0, y1, y2, y3⟩ := cell_box b1) | fail)
        have k0 := cell_two w1 b (.string ⟨#[]⟩) (.string ⟨#[]⟩) _ _ x0 x1
        refine bodyPost_ret (v := .tuple #[.agg #[(.string ⟨#[]⟩), (.string ⟨#[]⟩)], .int .i64 40]) (by simp [results, Tryz.results35, go_sem, k0.1, k0.2]) rfl ⟨by rw [hR], (u1.setCell (by exact HBW.o) _).setCell (by exact HBW.o) _⟩
      | true =>
        by_cases hp : p = s
        · have hR := HR.o.2.1 rfl hp
          have hp2 : p.toList = s.toList := by rw [hp]
          clear hp
          go_wp2_with (first | (go_at_call 29; with_reducible refine (cV.run _).mono ?_; rintro e w1 ⟨rfl, g1⟩; have u1 := u.trans (g1.mono u.size); have r1 := lkeep n_r g1; have b1 := lkeep n_b g1; obtain ⟨x0, x1, x2, x3⟩ := cell_box r1; obtain ⟨y0, y1, y2, y3⟩ := cell_box b1) | (go_at_call 34; with_reducible refine (cP.run _).mono ?_; rintro e w2 ⟨rfl, g2⟩; have u2 := u1.trans (g2.mono u1.size); have r2 := lkeep r1 g2; have b2 := lkeep b1 g2; obtain ⟨x0, x1, x2, x3⟩ := cell_box r2; obtain ⟨y0, y1, y2, y3⟩ := cell_box b2) | fail)
          have k0 := cell_two w2 b (.string n) (.string d) _ _ x0 x1
          refine bodyPost_ret (v := .tuple #[.agg #[(.string n), (.string d)], .int .i64 0]) (by simp [results, Tryz.results35, go_sem, k0.1, k0.2]) rfl ⟨by rw [hR], (u2.setCell (by exact HBW.o) _).setCell (by exact HBW.o) _⟩
        · have hR := HR.o.2.2 hp
          have hp2 : (p.toList == s.toList) = false := beq_eq_false_iff_ne.2 fun e => hp (inj.o _ _ e)
          clear hp
          go_wp2_with (first | (go_at_call 29; with_reducible refine (cV.run _).mono ?_; rintro e w1 ⟨rfl, g1⟩; have u1 := u.trans (g1.mono u.size); have r1 := lkeep n_r g1; have b1 := lkeep n_b g1; obtain ⟨x0, x1, x2, x3⟩ := cell_box r1; obtain ⟨y0, y1, y2, y3⟩ := cell_box b1) | (go_at_call 34; with_reducible refine (cP.run _).mono ?_; rintro e w2 ⟨rfl, g2⟩; have u2 := u1.trans (g2.mono u1.size); have r2 := lkeep r1 g2; have b2 := lkeep b1 g2; obtain ⟨x0, x1, x2, x3⟩ := cell_box r2; obtain ⟨y0, y1, y2, y3⟩ := cell_box b2) | fail)
          have k0 := cell_two w2 b (.string ⟨#[]⟩) (.string ⟨#[]⟩) _ _ x0 x1
          refine bodyPost_ret (v := .tuple #[.agg #[(.string ⟨#[]⟩), (.string ⟨#[]⟩)], .int .i64 40]) (by simp [results, Tryz.results35, go_sem, k0.1, k0.2]) rfl ⟨by rw [hR], (u2.setCell (by exact HBW.o) _).setCell (by exact HBW.o) _⟩
end Rt
end Go.Proofs.YtappobhpdpfojaaGreat
namespace Go.Proofs.YtappobhpdpfojaaGreat
set_option maxRecDepth 1000000
namespace Rt
open Go.RowKit Go.Proofs.YtappobhpdpfojaaGreat.Nm

set_option maxHeartbeats 4000000 in
theorem cut_any (n d : ByteArray) (w : World) : Calls Tryz.prog 11 #[.agg #[.string n, .string d]] w fun e w' => e = .returned (.agg #[.string (n.extract 0 (min n.size 210)), .string (d.extract 0 (min d.size 210))]) ∧ Below w.heap.size w w' := by
  go_enter Tryz.func11, Tryz.ntmps11
  have n_r := res_old w (.cells #[.string n, .string d] 23) (.cells #[.string ⟨#[]⟩, .string ⟨#[]⟩] 23)
  have n_b := res_two w (.cells #[.string n, .string d] 23) (.cells #[.string ⟨#[]⟩, .string ⟨#[]⟩] 23)
  have u := ((Below.refl w.heap.size w).alloc (Nat.le_refl _) (.cells #[.string n, .string d] 23)).alloc (by simp) (.cells #[.string ⟨#[]⟩, .string ⟨#[]⟩] 23)
  go_wp2_with fail
  generalize ((w.alloc (.cells #[.string n, .string d] 23)).alloc (.cells #[.string ⟨#[]⟩, .string ⟨#[]⟩] 23)) = W0 at *
  have ⟨x0, x1, x2, x3⟩ := cell_box n_r
  have ⟨y0, y1, y2, y3⟩ := cell_box n_b
  go_region
  have e1 : (min (n.size : Int) 210).toNat = min n.size 210 := by omega
  have e2 : (min (d.size : Int) 210).toNat = min d.size 210 := by omega
  generalize (min (n.size : Int) 210) = z1 at *
  generalize (min (d.size : Int) 210) = z2 at *
  rw [e1, e2]
  obtain ⟨n', hn'⟩ : ∃ n', n' = n.extract 0 (min n.size 210) := ⟨_, rfl⟩
  obtain ⟨d', hd'⟩ : ∃ d', d' = d.extract 0 (min d.size 210) := ⟨_, rfl⟩
  rw [← hn', ← hd']
  have k0 := cell_two W0 (w.heap.size + 1) (.string n') (.string d') _ _ y0 y1
  have uu := (((u.setCell (p := ⟨w.heap.size + 1, 0, none⟩) (Nat.le_succ _) (.string n')).setCell (p := ⟨w.heap.size + 1, 1, none⟩) (Nat.le_succ _) (.string d'))).drew
  have k1 : (((W0.setCell ⟨w.heap.size + 1, 0, none⟩ (.string n')).setCell ⟨w.heap.size + 1, 1, none⟩ (.string d')).drew).cell? ⟨w.heap.size + 1, 0, none⟩ = some (.string n') := k0.1
  have k2 : (((W0.setCell ⟨w.heap.size + 1, 0, none⟩ (.string n')).setCell ⟨w.heap.size + 1, 1, none⟩ (.string d')).drew).cell? ⟨w.heap.size + 1, 1, none⟩ = some (.string d') := k0.2
  clear k0
  generalize ((W0.setCell ⟨w.heap.size + 1, 0, none⟩ (.string n')).setCell ⟨w.heap.size + 1, 1, none⟩ (.string d')).drew = W1 at *
  go_wp2_with fail
  refine bodyPost_ret (v := .agg #[.string n', .string d']) (by simp [results, Tryz.results11, go_sem, k1, k2]) rfl ⟨by rw [hn', hd'], uu⟩
end Rt
end Go.Proofs.YtappobhpdpfojaaGreat
namespace Go.Proofs.YtappobhpdpfojaaGreat
set_option maxRecDepth 1000000
namespace Rt
open Go.RowKit Go.Proofs.YtappobhpdpfojaaGreat.Nm
open N10 (Two)

theorem txt_some (z : Int) : txt z ≠ ⟨#[]⟩ := by
  intro h
  have hb : bl (txt z) = [] := by rw [h]; rfl
  by_cases h0 : 0 ≤ z
  · have h2 := (N10.txt_nonneg z h0).2
    rw [hb] at h2
    have hz : z = 0 := by
      have h3 : dvl [] = 0 := rfl
      omega
    rw [hz] at h
    revert h
    decide
  · obtain ⟨D, h1, -, -⟩ := N10.txt_negS z (by omega)
    rw [hb] at h1
    cases h1
theorem ne_empty {p : ByteArray} (hp : p ≠ ⟨#[]⟩) : p.toList.isEmpty = false := by
  have e0 : (p.toList == (⟨#[]⟩ : ByteArray).toList) = false := by rw [str_eq]; exact decide_eq_false hp
  have hz : (⟨#[]⟩ : ByteArray).toList = [] := by first | simp | rfl
  cases h : p.toList with
  | nil => rw [h, hz] at e0; cases e0
  | cons x l => rfl
theorem tm_facts (n d : ByteArray) (hn : n.size ≤ 1000000) (hd : d.size ≤ 1000000) : ∃ (p : ByteArray) (b : Bool) (rn rd : ByteArray) (co : Int), Two 32 #[.agg #[.string n, .string d]] (.string p) ∧ Two 34 #[.agg #[.string n, .string d]] (.string p) ∧ Two 28 #[.agg #[.string n, .string d]] (.bool b) ∧ Two 33 #[.string p] (.tuple #[.agg #[.string rn, .string rd], .int .i64 co]) ∧ ((b = true ∧ co = 0 ∧ rn = n ∧ rd = d ∧ p ≠ ⟨#[]⟩) ∨ (b = false ∧ co = 40 ∧ p = ⟨#[]⟩)) ∧ p.size ≤ 1000000 ∧ ((qOf n d).isSome = true → p ≠ ⟨#[]⟩) := by
  have hP : Two 32 #[.agg #[.string n, .string d]] (.string (printR n d)) := fun W => Print_all n d hn hd W
  have hR : Two 34 #[.agg #[.string n, .string d]] (.string (printR n d)) := fun W => PrintR_all n d hn hd W
  have hV : Two 28 #[.agg #[.string n, .string d]] (.bool (qOf n d).isSome) := fun W => Valid_all n d hn hd W
  cases hq : qOf n d with
  | none =>
    have hp : printR n d = ⟨#[]⟩ := by rw [printR, hq]; rfl
    rw [hq] at hV
    rw [hp] at hP hR
    have hA : Two 33 #[.string ⟨#[]⟩] (bR (parseR ⟨#[]⟩)) := fun W => Parse_all _ (by decide) W
    have h1 : twoS ⟨#[]⟩ = (⟨#[]⟩, ⟨#[49]⟩) := twoS_one (fun b hb => by cases hb)
    have h2 : parseR ⟨#[]⟩ = none := by
      rw [parseR_eq, h1]
      cases h3 : qOf ⟨#[]⟩ ⟨#[49]⟩ with
      | none => rfl
      | some r => exact absurd (qOf_some h3).1.symm (txt_some _)
    rw [h2] at hA
    exact ⟨_, false, _, _, _, hP, hR, hV, hA, .inr ⟨rfl, rfl, rfl⟩, by decide, fun h => by cases h⟩
  | some q =>
    rw [hq] at hV
    obtain ⟨e1, e2, hf⟩ := qOf_some hq
    have h1 : twoS (printR n d) = (n, d) := by rw [e1, e2]; exact twoS_print hf
    have hs : (printR n d).size ≤ 1000000 := by
      have a1 := txt_size hf.1
      have a2 := txt_size hf.2
      rw [← e1] at a1
      rw [← e2] at a2
      rw [printR, hq, if_pos (show (some q).isSome = true from rfl)]
      split
      · omega
      · rw [ByteArray.size_append, ByteArray.size_append, show (⟨#[47]⟩ : ByteArray).size = 1 from rfl]; omega
    have h2 : parseR (printR n d) = some (n, d) := by
      rw [parseR_eq, h1, hq, decide_eq_true rfl]; rfl
    have hA : Two 33 #[.string (printR n d)] (bR (parseR (printR n d))) := fun W => Parse_all _ hs W
    rw [h2] at hA
    have hne : printR n d ≠ ⟨#[]⟩ := by
      intro h
      rw [h, twoS_one (fun b hb => by cases hb)] at h1
      have h3 := congrArg Prod.fst h1
      exact txt_some q.num (e1.symm.trans h3.symm)
    exact ⟨_, true, _, _, _, hP, hR, hV, hA, .inl ⟨rfl, rfl, rfl, rfl, hne⟩, hs, fun _ => hne⟩

theorem tp_facts (t : ByteArray) (ht : t.size ≤ 1000000) : ∃ (rn rd : ByteArray) (co : Int), Two 33 #[.string t] (.tuple #[.agg #[.string rn, .string rd], .int .i64 co]) ∧ Two 35 #[.string t] (.tuple #[.agg #[.string rn, .string rd], .int .i64 co]) ∧ ((co = 0 ∧ Two 32 #[.agg #[.string rn, .string rd]] (.string t)) ∨ co = 40) := by
  have hA : Two 33 #[.string t] (bR (parseR t)) := fun W => Parse_all t ht W
  have hB : Two 35 #[.string t] (bR (parseR t)) := fun W => ParseR_all t ht W
  cases h : parseR t with
  | none => rw [h] at hA hB; exact ⟨_, _, 40, hA, hB, .inr rfl⟩
  | some x =>
    obtain ⟨n, d⟩ := x
    rw [h] at hA hB
    rw [parseR_eq] at h
    by_cases hc : ((qOf (twoS t).1 (twoS t).2).isSome && decide (printR (twoS t).1 (twoS t).2 = t)) = true
    · rw [if_pos hc] at h
      have h2 : twoS t = (n, d) := Option.some.inj h
      rw [h2, Bool.and_eq_true, decide_eq_true_eq] at hc
      obtain ⟨q, hq⟩ := Option.isSome_iff_exists.1 hc.1
      obtain ⟨e1, e2, hf⟩ := qOf_some hq
      have e1 : n = txt q.num := e1
      have e2 : d = txt (q.den : Int) := e2
      have z1 : n.size ≤ 1000000 := by rw [e1]; exact hf.size.1
      have z2 : d.size ≤ 1000000 := by rw [e2]; exact hf.size.2
      have hP : Two 32 #[.agg #[.string n, .string d]] (.string (printR n d)) := fun W => Print_all n d z1 z2 W
      have h3 : printR n d = t := hc.2
      rw [h3] at hP
      exact ⟨_, _, 0, hA, hB, .inl ⟨rfl, hP⟩⟩
    · rw [if_neg hc] at h
      cases h
set_option maxHeartbeats 4000000 in
theorem tm_walk (xn xd raw : ByteArray) (x0 x1 x2 x3 f : Int) (ch : Nat) (h0 : -9223372036854775808 ≤ x0 ∧ x0 ≤ 9223372036854775807) (h1 : -9223372036854775808 ≤ x1 ∧ x1 ≤ 9223372036854775807) (h2 : -9223372036854775808 ≤ x2 ∧ x2 ≤ 9223372036854775807) (h3 : -9223372036854775808 ≤ x3 ∧ x3 ≤ 9223372036854775807) (hf : -9223372036854775808 ≤ f ∧ f ≤ 9223372036854775807) (hc : ch < 256) (w : World)
    (hS : ∀ W : World, Calls Tryz.prog 10 #[] W fun e w' => e = .returned (.bool true) ∧ Below W.heap.size W w') :
    Calls Tryz.prog 4 #[.agg #[.string xn, .string xd], .agg #[.int .i64 x0, .int .i64 x1, .int .i64 x2, .int .i64 x3], .int .i64 f, .int .u8 (ch : Int), .string raw] w fun e w' => e = .returned (.bool true) ∧ Below w.heap.size w w' := by
  have cL := fun W => Long_any x0 x1 x2 x3 h0 h1 h2 h3 W
  have CC : Shut _ := ⟨fun W => cut_any xn xd W⟩
  have CP : Shut _ := ⟨fun n (n1 : 1 ≤ n) (n2 : n ≤ 9223372036854775807) W => pickL_any f n hf.1 hf.2 n1 n2 W⟩
  have s1 : (xn.extract 0 (min xn.size 210)).size ≤ 1000000 := by rw [ByteArray.size_extract]; omega
  have s2 : (xd.extract 0 (min xd.size 210)).size ≤ 1000000 := by rw [ByteArray.size_extract]; omega
  generalize xn.extract 0 (min xn.size 210) = yn at *
  generalize xd.extract 0 (min xd.size 210) = yd at *
  clear h0 h1 h2 h3 hf
  go_enter Tryz.func4, Tryz.ntmps4
  go_wp2_with fail
  have n_x := res_old w (.cells #[.string xn, .string xd] 23) (.cells #[.int .i64 x0, .int .i64 x1, .int .i64 x2, .int .i64 x3] 24)
  have n_l := res_two w (.cells #[.string xn, .string xd] 23) (.cells #[.int .i64 x0, .int .i64 x1, .int .i64 x2, .int .i64 x3] 24)
  have u := ((Below.refl w.heap.size w).alloc (Nat.le_refl _) (.cells #[.string xn, .string xd] 23)).alloc (by simp) (.cells #[.int .i64 x0, .int .i64 x1, .int .i64 x2, .int .i64 x3] 24)
  generalize ((w.alloc (.cells #[.string xn, .string xd] 23)).alloc (.cells #[.int .i64 x0, .int .i64 x1, .int .i64 x2, .int .i64 x3] 24)) = W0 at *
  refine (hS _).mono ?_
  rintro e w1 ⟨rfl, hb1⟩
  have u1 := u.trans (hb1.mono u.size)
  have n_x1 := lkeep n_x hb1
  have n_l1 := lkeep n_l hb1
  have cx0 := lcell n_l1 0 (v := .int .i64 x0) rfl
  have cx1 := lcell n_l1 1 (v := .int .i64 x1) rfl
  have cx2 := lcell n_l1 2 (v := .int .i64 x2) rfl
  have cx3 := lcell n_l1 3 (v := .int .i64 x3) rfl
  clear hb1 hS u n_x n_l
  go_wp2_with fail
  refine (cL _).mono ?_
  rintro e w2 ⟨q, hq, rfl, hb2⟩
  have u2 := u1.trans (hb2.mono u1.size)
  have n_x2 := lkeep n_x1 hb2
  clear cx0 cx1 cx2 cx3 n_x1 n_l1 u1 hb2 cL
  have HQ : Shut (LongQ q) := ⟨hq⟩
  clear hq
  obtain ⟨mn, hmn⟩ : ∃ mn, mn = txt q.num := ⟨_, rfl⟩
  obtain ⟨md, hmd⟩ : ∃ md, md = txt (q.den : Int) := ⟨_, rfl⟩
  have HM : Shut (mn = txt q.num ∧ md = txt (q.den : Int)) := ⟨hmn, hmd⟩
  rw [show rq q = .agg #[.string mn, .string md] by rw [hmn, hmd]; rfl]
  clear hmn hmd
  go_wp2_with fail
  have n_m : (w2.alloc (.cells #[.string mn, .string md] 23)).heap[w2.heap.size]? = _ := World.alloc_heap_new w2 _
  have n_x3 : (w2.alloc (.cells #[.string mn, .string md] 23)).heap[w.heap.size]? = _ := (Below.heap_alloc w2 _ _ (lt_of_block n_x2)).trans n_x2
  have u3 := u2.alloc u2.size (.cells #[.string mn, .string md] 23)
  clear n_x2 u2
  generalize w2.alloc (.cells #[.string mn, .string md] 23) = W3 at *
  generalize w2.heap.size = bm at *
  obtain ⟨b, hb⟩ : ∃ b, b = w.heap.size := ⟨_, rfl⟩
  rw [← hb] at n_x3 u3
  rw [← hb]
  have HB : Shut (b = w.heap.size) := ⟨hb⟩
  clear hb
  have c_x_0 := lcell n_x3 0 (v := .string xn) rfl
  have c_x_1 := lcell n_x3 1 (v := .string xd) rfl
  have c_m_0 := lcell n_m 0 (v := .string mn) rfl
  have c_m_1 := lcell n_m 1 (v := .string md) rfl
  go_region_held3 (fun X => X.cell? ⟨b, 0, none⟩ = some (.string xn) ∧ X.cell? ⟨b, 1, none⟩ = some (.string xd) ∧ X.cell? ⟨bm, 0, none⟩ = some (.string mn) ∧ X.cell? ⟨bm, 1, none⟩ = some (.string md)) (go_keep) (first | (go_at_call 11; go_loud (refine (CC.o _).mono ?_); rintro e w1 ⟨rfl, g1⟩; have n_m := lkeep n_m (lundrew g1); have u4 := u3.trans ((lundrew g1).mono (HB.o ▸ u3.size)); have c_m_0 := lcell n_m 0 (v := .string mn) rfl; have c_m_1 := lcell n_m 1 (v := .string md) rfl; have n_x3 := lkeep n_x3 (lundrew g1); have c_x_0 := lcell n_x3 0 (v := .string xn) rfl; have c_x_1 := lcell n_x3 1 (v := .string xd) rfl) | fail)
  have u5 := u4.alloc (HB.o ▸ u4.size) (.cells #[.string yn, .string yd, .string mn, .string md] 23)
  have n_s : (w1.alloc (.cells #[.string yn, .string yd, .string mn, .string md] 23)).heap[w1.heap.size]? = _ := World.alloc_heap_new w1 _
  have n_m5 : (w1.alloc (.cells #[.string yn, .string yd, .string mn, .string md] 23)).heap[bm]? = _ := (Below.heap_alloc w1 _ _ (lt_of_block n_m)).trans n_m
  rename_i hA1 hA2
  clear c_x_0 c_x_1 c_m_0 c_m_1 n_m n_x3 u4 g1 u3
  generalize w1.alloc (.cells #[.string yn, .string yd, .string mn, .string md] 23) = W5 at *
  generalize w1.heap.size = bs at *
  have NS : Shut _ := ⟨n_s⟩
  have NM : Shut _ := ⟨n_m5⟩
  have U5 : Shut _ := ⟨u5⟩
  have m1 : mn.size ≤ 1000000 := by rw [HM.o.1]; exact HQ.o.fit.size.1
  have m2 : md.size ≤ 1000000 := by rw [HM.o.2]; exact HQ.o.fit.size.2
  clear n_s n_m5 u5
  go_wp2_with fail
  go_loopw [34] (fun iv wr => ∃ k : Nat, k ≤ 2 ∧ iv = .int .i64 (k : Int) ∧ Shut (wr.heap[bs]? = some (.cells #[.string yn, .string yd, .string mn, .string md] 23 (0, 0)) ∧ wr.heap[bm]? = some (.cells #[.string mn, .string md] 23 (0, 0)) ∧ Below b w wr)) (fun iv _ => 2 - (intOf iv).toNat)
  case atStart => exact ⟨0, by omega, rfl, ⟨NS.o, NM.o, U5.o⟩⟩
  case round =>
    obtain ⟨k, hk, rfl, H⟩ := hrel
    clear NS NM U5
    rcases (show k = 0 ∨ k = 1 ∨ k = 2 by omega) with rfl | rfl | rfl
    · obtain ⟨p, bv, rn, rd, co, cP, cR, cV, cA, hw, -, -⟩ := tm_facts yn yd s1 s2
      obtain ⟨n_s, n_m, u⟩ := H.o
      have y0 := lcell n_s 0 (v := .string yn) rfl
      have y1 := lcell n_s 1 (v := .string yd) rfl
      clear H
      go_wp2_with fail
      have n_s : (wr.alloc (.cells #[.string yn, .string yd] 23)).heap[bs]? = _ := (Below.heap_alloc wr _ _ (lt_of_block n_s)).trans n_s
      have n_m : (wr.alloc (.cells #[.string yn, .string yd] 23)).heap[bm]? = _ := (Below.heap_alloc wr _ _ (lt_of_block n_m)).trans n_m
      have n_t : (wr.alloc (.cells #[.string yn, .string yd] 23)).heap[wr.heap.size]? = _ := World.alloc_heap_new wr _
      have u := u.alloc (HB.o ▸ u.size) (.cells #[.string yn, .string yd] 23)
      clear y0 y1
      generalize wr.alloc (.cells #[.string yn, .string yd] 23) = V0 at *
      generalize wr.heap.size = bt at *
      refine (cP.run _).mono ?_
      rintro e v1 ⟨rfl, g1⟩
      have n_s := lkeep n_s g1
      have n_m := lkeep n_m g1
      have n_t := lkeep n_t g1
      have u := u.trans (g1.mono (HB.o ▸ u.size))
      clear g1
      go_wp2_with fail
      refine (cA.run _).mono ?_
      rintro e v2 ⟨rfl, g2⟩
      have n_s := lkeep n_s g2
      have n_m := lkeep n_m g2
      have n_t := lkeep n_t g2
      have u := u.trans (g2.mono (HB.o ▸ u.size))
      clear g2
      have n_s : (v2.alloc (.cells #[.string rn, .string rd] 23)).heap[bs]? = _ := (Below.heap_alloc v2 _ _ (lt_of_block n_s)).trans n_s
      have n_m : (v2.alloc (.cells #[.string rn, .string rd] 23)).heap[bm]? = _ := (Below.heap_alloc v2 _ _ (lt_of_block n_m)).trans n_m
      have n_t : (v2.alloc (.cells #[.string rn, .string rd] 23)).heap[bt]? = _ := (Below.heap_alloc v2 _ _ (lt_of_block n_t)).trans n_t
      have n_r : (v2.alloc (.cells #[.string rn, .string rd] 23)).heap[v2.heap.size]? = _ := World.alloc_heap_new v2 _
      have u := u.alloc (HB.o ▸ u.size) (.cells #[.string rn, .string rd] 23)
      have z0 := lcell n_t 0 (v := .string yn) rfl
      have z1 := lcell n_t 1 (v := .string yd) rfl
      go_wp2_with fail
      generalize v2.alloc (.cells #[.string rn, .string rd] 23) = V3 at *
      generalize v2.heap.size = br at *
      refine (cR.run _).mono ?_
      rintro e v3 ⟨rfl, g3⟩
      have n_s := lkeep n_s g3
      have n_m := lkeep n_m g3
      have n_t := lkeep n_t g3
      have n_r := lkeep n_r g3
      have u := u.trans (g3.mono (HB.o ▸ u.size))
      clear g3
      have z0 := lcell n_t 0 (v := .string yn) rfl
      have z1 := lcell n_t 1 (v := .string yd) rfl
      have r0 := lcell n_r 0 (v := .string rn) rfl
      have r1 := lcell n_r 1 (v := .string rd) rfl
      have ep : (p.toList == p.toList) = true := beq_self_eq_true _
      go_wp2_with fail
      refine (cV.run _).mono ?_
      rintro e v4 ⟨rfl, g4⟩
      have n_s := lkeep n_s g4
      have n_m := lkeep n_m g4
      have n_t := lkeep n_t g4
      have n_r := lkeep n_r g4
      have u := u.trans (g4.mono (HB.o ▸ u.size))
      clear g4
      have z0 := lcell n_t 0 (v := .string yn) rfl
      have z1 := lcell n_t 1 (v := .string yd) rfl
      have r0 := lcell n_r 0 (v := .string rn) rfl
      have r1 := lcell n_r 1 (v := .string rd) rfl
      rcases hw with ⟨hb, hco, hrn, hrd, hp⟩ | ⟨hb, hco, hp⟩
      · have hrn := hrn.symm
        have hrd := hrd.symm
        subst hb hco hrn hrd
        have e0 : p.toList.isEmpty = false := ne_empty hp
        have e1 : ((yn).toList == (yn).toList) = true := beq_self_eq_true _
        have e2 : ((yd).toList == (yd).toList) = true := beq_self_eq_true _
        go_wp2_with fail
        refine (cV.run _).mono ?_
        rintro e v5 ⟨rfl, g5⟩
        have n_s := lkeep n_s g5
        have n_m := lkeep n_m g5
        have u := u.trans (g5.mono (HB.o ▸ u.size))
        clear g5 z0 z1 r0 r1
        go_wp2_with fail
        go_roundw
        case rel => exact ⟨1, by omega, by first | rfl | go_num, ⟨n_s, n_m, u⟩⟩
        case measure => simp [intOf]
      · subst hb hco hp
        have e0 : ((⟨#[]⟩ : ByteArray).toList == (⟨#[]⟩ : ByteArray).toList) = true := beq_self_eq_true _
        go_wp2_with fail
        refine (cV.run _).mono ?_
        rintro e v5 ⟨rfl, g5⟩
        have n_s := lkeep n_s g5
        have n_m := lkeep n_m g5
        have u := u.trans (g5.mono (HB.o ▸ u.size))
        clear g5 z0 z1 r0 r1
        go_wp2_with fail
        go_roundw
        case rel => exact ⟨1, by omega, by first | rfl | go_num, ⟨n_s, n_m, u⟩⟩
        case measure => simp [intOf]
    · obtain ⟨p, bv, rn, rd, co, cP, cR, cV, cA, hw, -, -⟩ := tm_facts mn md m1 m2
      obtain ⟨n_s, n_m, u⟩ := H.o
      have y0 := lcell n_s 2 (v := .string mn) rfl
      have y1 := lcell n_s 3 (v := .string md) rfl
      clear H
      go_wp2_with fail
      have n_s : (wr.alloc (.cells #[.string mn, .string md] 23)).heap[bs]? = _ := (Below.heap_alloc wr _ _ (lt_of_block n_s)).trans n_s
      have n_m : (wr.alloc (.cells #[.string mn, .string md] 23)).heap[bm]? = _ := (Below.heap_alloc wr _ _ (lt_of_block n_m)).trans n_m
      have n_t : (wr.alloc (.cells #[.string mn, .string md] 23)).heap[wr.heap.size]? = _ := World.alloc_heap_new wr _
      have u := u.alloc (HB.o ▸ u.size) (.cells #[.string mn, .string md] 23)
      clear y0 y1
      generalize wr.alloc (.cells #[.string mn, .string md] 23) = V0 at *
      generalize wr.heap.size = bt at *
      refine (cP.run _).mono ?_
      rintro e v1 ⟨rfl, g1⟩
      have n_s := lkeep n_s g1
      have n_m := lkeep n_m g1
      have n_t := lkeep n_t g1
      have u := u.trans (g1.mono (HB.o ▸ u.size))
      clear g1
      go_wp2_with fail
      refine (cA.run _).mono ?_
      rintro e v2 ⟨rfl, g2⟩
      have n_s := lkeep n_s g2
      have n_m := lkeep n_m g2
      have n_t := lkeep n_t g2
      have u := u.trans (g2.mono (HB.o ▸ u.size))
      clear g2
      have n_s : (v2.alloc (.cells #[.string rn, .string rd] 23)).heap[bs]? = _ := (Below.heap_alloc v2 _ _ (lt_of_block n_s)).trans n_s
      have n_m : (v2.alloc (.cells #[.string rn, .string rd] 23)).heap[bm]? = _ := (Below.heap_alloc v2 _ _ (lt_of_block n_m)).trans n_m
      have n_t : (v2.alloc (.cells #[.string rn, .string rd] 23)).heap[bt]? = _ := (Below.heap_alloc v2 _ _ (lt_of_block n_t)).trans n_t
      have n_r : (v2.alloc (.cells #[.string rn, .string rd] 23)).heap[v2.heap.size]? = _ := World.alloc_heap_new v2 _
      have u := u.alloc (HB.o ▸ u.size) (.cells #[.string rn, .string rd] 23)
      have z0 := lcell n_t 0 (v := .string mn) rfl
      have z1 := lcell n_t 1 (v := .string md) rfl
      go_wp2_with fail
      generalize v2.alloc (.cells #[.string rn, .string rd] 23) = V3 at *
      generalize v2.heap.size = br at *
      refine (cR.run _).mono ?_
      rintro e v3 ⟨rfl, g3⟩
      have n_s := lkeep n_s g3
      have n_m := lkeep n_m g3
      have n_t := lkeep n_t g3
      have n_r := lkeep n_r g3
      have u := u.trans (g3.mono (HB.o ▸ u.size))
      clear g3
      have z0 := lcell n_t 0 (v := .string mn) rfl
      have z1 := lcell n_t 1 (v := .string md) rfl
      have r0 := lcell n_r 0 (v := .string rn) rfl
      have r1 := lcell n_r 1 (v := .string rd) rfl
      have ep : (p.toList == p.toList) = true := beq_self_eq_true _
      go_wp2_with fail
      refine (cV.run _).mono ?_
      rintro e v4 ⟨rfl, g4⟩
      have n_s := lkeep n_s g4
      have n_m := lkeep n_m g4
      have n_t := lkeep n_t g4
      have n_r := lkeep n_r g4
      have u := u.trans (g4.mono (HB.o ▸ u.size))
      clear g4
      have z0 := lcell n_t 0 (v := .string mn) rfl
      have z1 := lcell n_t 1 (v := .string md) rfl
      have r0 := lcell n_r 0 (v := .string rn) rfl
      have r1 := lcell n_r 1 (v := .string rd) rfl
      rcases hw with ⟨hb, hco, hrn, hrd, hp⟩ | ⟨hb, hco, hp⟩
      · have hrn := hrn.symm
        have hrd := hrd.symm
        subst hb hco hrn hrd
        have e0 : p.toList.isEmpty = false := ne_empty hp
        have e1 : ((mn).toList == (mn).toList) = true := beq_self_eq_true _
        have e2 : ((md).toList == (md).toList) = true := beq_self_eq_true _
        go_wp2_with fail
        refine (cV.run _).mono ?_
        rintro e v5 ⟨rfl, g5⟩
        have n_s := lkeep n_s g5
        have n_m := lkeep n_m g5
        have u := u.trans (g5.mono (HB.o ▸ u.size))
        clear g5 z0 z1 r0 r1
        go_wp2_with fail
        go_roundw
        case rel => exact ⟨2, by omega, by first | rfl | go_num, ⟨n_s, n_m, u⟩⟩
        case measure => simp [intOf]
      · subst hb hco hp
        have e0 : ((⟨#[]⟩ : ByteArray).toList == (⟨#[]⟩ : ByteArray).toList) = true := beq_self_eq_true _
        go_wp2_with fail
        refine (cV.run _).mono ?_
        rintro e v5 ⟨rfl, g5⟩
        have n_s := lkeep n_s g5
        have n_m := lkeep n_m g5
        have u := u.trans (g5.mono (HB.o ▸ u.size))
        clear g5 z0 z1 r0 r1
        go_wp2_with fail
        go_roundw
        case rel => exact ⟨2, by omega, by first | rfl | go_num, ⟨n_s, n_m, u⟩⟩
        case measure => simp [intOf]
    · obtain ⟨n_s, n_m, u⟩ := H.o
      have y0 := lcell n_m 0 (v := .string mn) rfl
      have y1 := lcell n_m 1 (v := .string md) rfl
      clear H n_s
      go_wp2_with fail
      obtain ⟨p, bv, rn, rd, co, -, cR, cV, -, hw, hps, hq⟩ := tm_facts mn md m1 m2
      have hp : p ≠ ⟨#[]⟩ := hq (by rw [HM.o.1, HM.o.2, qOf_txt HQ.o.fit]; rfl)
      clear hq
      have e0 : p.toList.isEmpty = false := ne_empty hp
      have hp1 : 1 ≤ p.size := by
        rcases Nat.eq_zero_or_pos p.size with h | h
        · exact absurd (ByteArray.size_eq_zero_iff.1 h) hp
        · exact h
      clear hw hp cV
      refine (cR.run _).mono ?_
      rintro e v1 ⟨rfl, g1⟩
      have u := u.trans (g1.mono (HB.o ▸ u.size))
      clear g1 cR y0 y1 n_m
      go_wp2_with fail
      refine (CP.o (p.size : Int) (by omega) (by omega) _).mono ?_
      rintro e v2 ⟨k, hk, rfl, rfl⟩
      have hi0 : (0 : Int) ≤ (k : Int) := by omega
      have hi1 : (k : Int) ≤ (p.size : Int) := by omega
      have hi2 : (k : Int) + 1 ≤ (p.size : Int) := by omega
      have hi3 : (0 : Int) ≤ (k : Int) + 1 := by omega
      have hw1 : IntKind.i64.wrap ((k : Int) + 1) = (k : Int) + 1 := i64_ok (by omega) (by omega)
      have hi4 : ((k : Int) + 1).toNat = k + 1 := by omega
      go_wp2_with fail
      have hcv := back_string ((v2.alloc (.cells #[.int .u8 (ch : Int)] 5)).drew) v2.heap.size 0 1 [ch] (by simp; omega) (fun i hi => by have hi0 : i = 0 := (by simpa using hi); subst hi0; exact cell_one_new _ _ _ 0 _ rfl)
      rw [List.length_singleton] at hcv
      have hcs : (ba [ch]).size = 1 := ba_size _
      generalize ba [ch] = cs at *
      have hm1 : (0 : Int) ≤ min (raw.size : Int) 420 := by omega
      have hm2 : min (raw.size : Int) 420 ≤ (raw.size : Int) := by omega
      clear e0
      go_region
      obtain ⟨ta, hta⟩ : ∃ ta, ta = raw.extract 0 (min (raw.size : Int) 420).toNat := ⟨_, rfl⟩
      obtain ⟨tb, htb⟩ : ∃ tb, tb = p.extract 0 k ++ cs ++ p.extract (k + 1) p.size := ⟨_, rfl⟩
      have ht1 : ta.size ≤ 1000000 := by rw [hta, ByteArray.size_extract]; omega
      have ht2 : tb.size ≤ 1000000 := by rw [htb, ByteArray.size_append, ByteArray.size_append, ByteArray.size_extract, ByteArray.size_extract]; omega
      rw [← hta, ← htb]
      have u := (((u.alloc (HB.o ▸ u.size) (.cells #[.int .u8 (ch : Int)] 5)).alloc (by have := HB.o ▸ u.size; simp; omega) (.cells #[.string ta, .string tb] 9))).drew
      have n_s : (((v2.alloc (.cells #[.int .u8 (ch : Int)] 5)).alloc (.cells #[.string ta, .string tb] 9)).drew).heap[v2.heap.size + 1]? = _ := res_two v2 (.cells #[.int .u8 (ch : Int)] 5) (.cells #[.string ta, .string tb] 9)
      clear hta htb hcv hcs hi0 hi1 hi2 hi3 hw1 hi4 hm1 hm2 hk hps hp1
      go_wp2_with fail
      generalize ((v2.alloc (.cells #[.int .u8 (ch : Int)] 5)).alloc (.cells #[.string ta, .string tb] 9)).drew = W6 at *
      generalize v2.heap.size + 1 = bz at *
      have NS : Shut _ := ⟨n_s⟩
      have U6 : Shut _ := ⟨u⟩
      clear n_s u
      go_loopw [96] (fun iv wr => ∃ k : Nat, k ≤ 2 ∧ iv = .int .i64 (k : Int) ∧ Shut (wr.heap[bz]? = some (.cells #[.string ta, .string tb] 9 (0, 0)) ∧ Below b w wr)) (fun iv _ => 2 - (intOf iv).toNat)
      case atStart => exact ⟨0, by omega, rfl, ⟨NS.o, U6.o⟩⟩
      case round =>
        obtain ⟨k, hk, rfl, H⟩ := hrel
        clear NS U6
        rcases (show k = 0 ∨ k = 1 ∨ k = 2 by omega) with rfl | rfl | rfl
        · obtain ⟨rn, rd, co, cA, cR, hw⟩ := tp_facts ta ht1
          obtain ⟨n_s, u⟩ := H.o
          have y0 := lcell n_s 0 (v := .string ta) rfl
          clear H
          go_wp2_with fail
          refine (cA.run _).mono ?_
          rintro e v1 ⟨rfl, g1⟩
          have n_s := lkeep n_s g1
          have u := u.trans (g1.mono (HB.o ▸ u.size))
          clear g1 y0
          have n_s : (v1.alloc (.cells #[.string rn, .string rd] 23)).heap[bz]? = _ := (Below.heap_alloc v1 _ _ (lt_of_block n_s)).trans n_s
          have n_r : (v1.alloc (.cells #[.string rn, .string rd] 23)).heap[v1.heap.size]? = _ := World.alloc_heap_new v1 _
          have u := u.alloc (HB.o ▸ u.size) (.cells #[.string rn, .string rd] 23)
          go_wp2_with fail
          generalize v1.alloc (.cells #[.string rn, .string rd] 23) = V1 at *
          generalize v1.heap.size = br at *
          refine (cR.run _).mono ?_
          rintro e v2 ⟨rfl, g2⟩
          have n_s := lkeep n_s g2
          have n_r := lkeep n_r g2
          have u := u.trans (g2.mono (HB.o ▸ u.size))
          clear g2
          have n_s : (v2.alloc (.cells #[.string rn, .string rd] 23)).heap[bz]? = _ := (Below.heap_alloc v2 _ _ (lt_of_block n_s)).trans n_s
          have n_r : (v2.alloc (.cells #[.string rn, .string rd] 23)).heap[br]? = _ := (Below.heap_alloc v2 _ _ (lt_of_block n_r)).trans n_r
          have n_q : (v2.alloc (.cells #[.string rn, .string rd] 23)).heap[v2.heap.size]? = _ := World.alloc_heap_new v2 _
          have u := u.alloc (HB.o ▸ u.size) (.cells #[.string rn, .string rd] 23)
          have r0 := lcell n_r 0 (v := .string rn) rfl
          have r1 := lcell n_r 1 (v := .string rd) rfl
          have q0 := lcell n_q 0 (v := .string rn) rfl
          have q1 := lcell n_q 1 (v := .string rd) rfl
          have e1 : (rn.toList == rn.toList) = true := beq_self_eq_true _
          have e2 : (rd.toList == rd.toList) = true := beq_self_eq_true _
          have e3 : ((ta).toList == (ta).toList) = true := beq_self_eq_true _
          rcases hw with ⟨hco, cP⟩ | hco
          · subst hco
            go_wp2_with fail
            generalize v2.alloc (.cells #[.string rn, .string rd] 23) = V2 at *
            refine (cP.run _).mono ?_
            rintro e v3 ⟨rfl, g3⟩
            have n_s := lkeep n_s g3
            have u := u.trans (g3.mono (HB.o ▸ u.size))
            clear g3 r0 r1 q0 q1
            go_wp2_with fail
            go_roundw
            case rel => exact ⟨1, by omega, by first | rfl | go_num, ⟨n_s, u⟩⟩
            case measure => simp [intOf]
          · subst hco
            go_wp2_with fail
            go_roundw
            case rel => exact ⟨1, by omega, by first | rfl | go_num, ⟨n_s, u⟩⟩
            case measure => simp [intOf]
        · obtain ⟨rn, rd, co, cA, cR, hw⟩ := tp_facts tb ht2
          obtain ⟨n_s, u⟩ := H.o
          have y0 := lcell n_s 1 (v := .string tb) rfl
          clear H
          go_wp2_with fail
          refine (cA.run _).mono ?_
          rintro e v1 ⟨rfl, g1⟩
          have n_s := lkeep n_s g1
          have u := u.trans (g1.mono (HB.o ▸ u.size))
          clear g1 y0
          have n_s : (v1.alloc (.cells #[.string rn, .string rd] 23)).heap[bz]? = _ := (Below.heap_alloc v1 _ _ (lt_of_block n_s)).trans n_s
          have n_r : (v1.alloc (.cells #[.string rn, .string rd] 23)).heap[v1.heap.size]? = _ := World.alloc_heap_new v1 _
          have u := u.alloc (HB.o ▸ u.size) (.cells #[.string rn, .string rd] 23)
          go_wp2_with fail
          generalize v1.alloc (.cells #[.string rn, .string rd] 23) = V1 at *
          generalize v1.heap.size = br at *
          refine (cR.run _).mono ?_
          rintro e v2 ⟨rfl, g2⟩
          have n_s := lkeep n_s g2
          have n_r := lkeep n_r g2
          have u := u.trans (g2.mono (HB.o ▸ u.size))
          clear g2
          have n_s : (v2.alloc (.cells #[.string rn, .string rd] 23)).heap[bz]? = _ := (Below.heap_alloc v2 _ _ (lt_of_block n_s)).trans n_s
          have n_r : (v2.alloc (.cells #[.string rn, .string rd] 23)).heap[br]? = _ := (Below.heap_alloc v2 _ _ (lt_of_block n_r)).trans n_r
          have n_q : (v2.alloc (.cells #[.string rn, .string rd] 23)).heap[v2.heap.size]? = _ := World.alloc_heap_new v2 _
          have u := u.alloc (HB.o ▸ u.size) (.cells #[.string rn, .string rd] 23)
          have r0 := lcell n_r 0 (v := .string rn) rfl
          have r1 := lcell n_r 1 (v := .string rd) rfl
          have q0 := lcell n_q 0 (v := .string rn) rfl
          have q1 := lcell n_q 1 (v := .string rd) rfl
          have e1 : (rn.toList == rn.toList) = true := beq_self_eq_true _
          have e2 : (rd.toList == rd.toList) = true := beq_self_eq_true _
          have e3 : ((tb).toList == (tb).toList) = true := beq_self_eq_true _
          rcases hw with ⟨hco, cP⟩ | hco
          · subst hco
            go_wp2_with fail
            generalize v2.alloc (.cells #[.string rn, .string rd] 23) = V2 at *
            refine (cP.run _).mono ?_
            rintro e v3 ⟨rfl, g3⟩
            have n_s := lkeep n_s g3
            have u := u.trans (g3.mono (HB.o ▸ u.size))
            clear g3 r0 r1 q0 q1
            go_wp2_with fail
            go_roundw
            case rel => exact ⟨2, by omega, by first | rfl | go_num, ⟨n_s, u⟩⟩
            case measure => simp [intOf]
          · subst hco
            go_wp2_with fail
            go_roundw
            case rel => exact ⟨2, by omega, by first | rfl | go_num, ⟨n_s, u⟩⟩
            case measure => simp [intOf]
        · obtain ⟨n_s, u⟩ := H.o
          rw [HB.o] at u
          clear H n_s
          go_wp2_with fail
          refine bodyPost_ret (v := .bool true) (by simp [results, Tryz.results4, go_sem]) rfl ⟨rfl, u⟩
end Rt
end Go.Proofs.YtappobhpdpfojaaGreat
