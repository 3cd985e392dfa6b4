/-
  What the document's own signed and Read return: the number whose numeral the text is, or that there is none. Condition: that the text is not too long.
-/
import Derived.Test.YtiofglgpgjnonaaDoorRadd
import Derived.Test.YtiofglgpgjnonaaDoorBkt
namespace Go.Proofs.YtiofglgpgjnonaaDoor
open Go.RowKit Nb

set_option maxHeartbeats 400000 in
theorem rsigned_any (neg : Bool) (A : Option Addr) (ls : List Nat) (c : Nat) (w : World) (hr : Sl .u32 w w.heap.size A ls) (hl : ls.length ≤ c) (hc : c ≤ maxLen) :
    Calls Tryd.prog 78 #[.bool neg, .slice A ls.length c] w fun e w' => ∃ A' c', e = .returned (big (neg && decide (0 < (trimL ls).length)) A' (trimL ls).length c') ∧
      (0 < (trimL ls).length ∧ A' = A ∧ c' = c ∨ (trimL ls).length = 0 ∧ A' = none ∧ c' = 0) ∧ Below w.heap.size w w' := by
  have hx := rtrim_any A ls c (w.alloc (.cells #[.bool false, .slice none 0 0] 24)) ((hr.alloc (Nat.le_refl _) _).more (by simp)) hl hc
  have HX := Lib.hid hx; clear hx
  unfold maxLen at hc
  have hln := trimL_len ls
  rcases hn : (trimL ls).length with _ | n
  · rw [hn] at HX
    go_enter Tryd.func78, Tryd.ntmps78
    go_wp2_with (go_at_call 75; refine (HX.out).mono ?_; rintro e w' ⟨rfl, rfl⟩)
    refine bodyPost_ret (v := big false none 0 0) (by simp [results, Tryd.results78, go_sem]) rfl ?_
    exact ⟨none, 0, by simp, by simp, by go_grown⟩
  · rw [hn] at HX
    have hn2 : n + 1 ≤ c := by omega
    clear hn hln hl
    go_enter Tryd.func78, Tryd.ntmps78
    go_wp2_with (go_at_call 75; refine (HX.out).mono ?_; rintro e w' ⟨rfl, rfl⟩)
    refine bodyPost_ret (v := big neg A (n + 1) c) (by simp [results, Tryd.results78, go_sem]) rfl ?_
    exact ⟨A, c, by simp, by simp, by go_grown⟩

/-- What Read answers. -/
def RRead (w : World) (l : List UInt8) (e : Ending) (w' : World) : Prop := ∃ (n : Bool) (V : Option Addr) (zs : List Nat) (k : Nat) (ok : Bool), e = .returned (.tuple #[big n V zs.length k, .bool ok]) ∧
  ((ok = true ∧ IsNum l ∧ Sl .u32 w' w'.heap.size V zs ∧ Dig W32 zs ∧ Norm zs ∧ (zs = [] → n = false) ∧ zs.length ≤ k ∧ k ≤ maxLen ∧ sv n (val W32 zs) = numV l) ∨ (ok = false ∧ ¬ IsNum l ∧ n = false ∧ V = none ∧ zs = [] ∧ k = 0)) ∧ Below w.heap.size w w'

theorem pow10_W32 (n : Nat) : 10 ^ n ≤ W32 ^ n := Nat.pow_le_pow_left (by decide) n

/-- The next digits of a text, at most nine. -/
def bit (l : List UInt8) (k j : Nat) : List UInt8 := (l.drop k).take j
theorem bit_snoc (t : ByteArray) (k j : Nat) (h : k + j < t.size) : bit t.data.toList k (j + 1) = bit t.data.toList k j ++ [t[k + j]] := by
  unfold bit
  have h1 : j < (t.data.toList.drop k).length := by simp; omega
  rw [List.take_succ_eq_append_getElem h1, List.getElem_drop]; rfl
theorem bit_len (l : List UInt8) (k j : Nat) (h : k + j ≤ l.length) : (bit l k j).length = j := by
  unfold bit; simp; omega
theorem bit_take (l : List UInt8) (k j : Nat) : l.take (k + j) = l.take k ++ bit l k j := List.take_add

theorem isnum_of {s t : ByteArray} {b : Bool} (hb : minus s.data.toList = b) (hbd : body s.data.toList = t.data.toList) (h0 : 0 < t.size) (hh : ¬ (t[0] = 48 ∧ (1 < t.size ∨ b = true))) (hd : ∀ c ∈ t.data.toList, IsD c) : IsNum s.data.toList := by
  obtain ⟨m, hm⟩ : ∃ m, t.data.toList = t[0] :: m := by
    cases hl : t.data.toList with
    | nil => have h9 : t.data.toList.length = t.size := by simp
             rw [hl] at h9; simp at h9; omega
    | cons x m =>
      refine ⟨m, ?_⟩
      have h2 : t.data.toList[0]'(by rw [hl]; simp) = x := by simp [hl]
      have h3 : t[0] = x := by rw [← h2]; show t.data[0] = _; simp
      rw [h3]
  have hlen : t.data.toList.length = t.size := by simp
  unfold IsNum
  rw [hb, hbd]
  refine ⟨sz_head hm (fun ⟨h1, h2⟩ => hh ⟨h1, ?_⟩) hd, fun ⟨h1, h2⟩ => hh ⟨?_, .inr h1⟩⟩
  · left
    rcases Nat.lt_or_ge 1 t.size with h | h
    · exact h
    · refine absurd ?_ h2
      rw [hm, h1]
      have : m = [] := by
        have h5 : m.length = 0 := by rw [hm] at hlen; simp at hlen; omega
        exact List.eq_nil_of_length_eq_zero h5
      rw [this]
  · rw [hm] at h2
    exact (List.cons.inj h2).1
theorem num_head {s t : ByteArray} {b : Bool} (hb : minus s.data.toList = b) (hbd : body s.data.toList = t.data.toList) (h0 : 0 < t.size) (hh : t[0] = 48 ∧ (1 < t.size ∨ b = true)) : ¬ IsNum s.data.toList := by
  intro hn
  unfold IsNum at hn
  rw [hb, hbd] at hn
  have hlen : t.data.toList.length = t.size := by simp
  have h1 : t.data.toList.head? = some 48 := by
    cases hl : t.data.toList with
    | nil => rw [hl] at hlen; simp at hlen; omega
    | cons x m =>
      have h2 : t.data.toList[0]'(by rw [hl]; simp) = x := by simp [hl]
      have h3 : t[0] = x := by rw [← h2]; show t.data[0] = _; simp
      rw [List.head?_cons, ← h3, hh.1]
  have h2 := hn.1.head h1
  rcases hh.2 with h | h
  · rw [h2] at hlen; simp at hlen; omega
  · exact hn.2 ⟨h, h2⟩
theorem num_digit {s t : ByteArray} (hbd : body s.data.toList = t.data.toList) {k : Nat} (hk : k < t.size) (h : ¬ IsD t[k]) : ¬ IsNum s.data.toList := by
  intro hn
  have h1 := hn.1.dig
  rw [hbd] at h1
  exact h (h1 _ (by show t.data[k] ∈ t.data.toList; exact Array.getElem_mem_toList _))

set_option maxHeartbeats 4000000 in
set_option maxRecDepth 20000 in
theorem rread_any (s : ByteArray) (w : World) (hs : s.size ≤ 65536) :
    Calls Tryd.prog 44 #[.string s] w (RRead w s.data.toList) := by
  have hll : s.data.toList.length = s.size := by simp
  have hr := Rest.newI w
  have hb0 : Below w.heap.size w (w.alloc (.cells #[.bool false, .slice none 0 0] 24)) := by go_grown
  have g0 := hr.r0
  have g1 := hr.r1
  have g2 := hr.f0
  have g3 := hr.f1
  have hno : ¬ IsNum s.data.toList → ∀ W', Below w.heap.size w W' → RRead w s.data.toList (.returned (.tuple #[big false none ([] : List Nat).length 0, .bool false])) W' := fun h W' hb => ⟨false, none, [], 0, false, rfl, .inr ⟨rfl, h, rfl, rfl, rfl, rfl⟩, hb⟩
  have HN := Lib.hid hno
  clear hno
  rcases Nat.eq_zero_or_pos s.size with h0 | h0
  · have hnn : ¬ IsNum s.data.toList := by
      intro h
      have h1 : s.data.toList = [] := List.eq_nil_of_length_eq_zero (by omega)
      rw [h1] at h
      exact h.1.ne rfl
    have HF := Lib.hid hnn
    clear hnn hll
    go_enter Tryd.func44, Tryd.ntmps44
    go_wp2
    refine bodyPost_ret (v := .tuple #[big false none 0 0, .bool false]) (by simp [results, Tryd.results44, go_sem, g0, g1]) rfl (HN.out HF.out _ ?_)
    first | exact hb0 | exact ((hb0.setCell (p := ⟨w.heap.size, 0, none⟩) (Nat.le_refl _) _).setCell (p := ⟨w.heap.size, 1, none⟩) (Nat.le_refl _) _)
  · by_cases h45 : s[0] = 45
    · obtain ⟨t, ht⟩ : ∃ t, s.extract 1 s.size = t := ⟨_, rfl⟩
      have hm : minus s.data.toList = true := by
        cases hl : s.data.toList with
        | nil => rw [hl] at hll; simp at hll; omega
        | cons x m =>
          have h2 : s.data.toList[0]'(by rw [hl]; simp) = x := by simp [hl]
          have h3 : s[0] = x := by rw [← h2]; show s.data[0] = _; simp
          rw [minus_cons, ← h3, h45]; rfl
      have hbd : body s.data.toList = t.data.toList := by
        unfold body; rw [hm, ← ht, ext_list s 1 (by omega)]; rfl
      have hts : t.size ≤ 65536 := by
        have h4 : t.size = s.size - 1 := by rw [← ht, ByteArray.size_extract]; omega
        omega
      have c45 : (s[0].toNat : Int) = 45 := by rw [h45]; rfl
      have hsi : (0 : Int) < (s.size : Int) := by omega
      have hsi1 : (1 : Int) ≤ (s.size : Int) := by omega
      have HB := Lib.hid (And.intro hm (And.intro hbd trivial))
      clear hm hbd h45 hll
      by_cases ht0 : t.size = 0
      · have hnn : ¬ IsNum s.data.toList := by
          intro h
          have h1 : t.data.toList = [] := List.eq_nil_of_length_eq_zero (by have : t.data.toList.length = t.size := by simp
                                                                            omega)
          have h2 := h.1.ne
          rw [HB.out.2.1, h1] at h2
          exact h2 rfl
        have hti : (t.size : Int) = 0 := by omega
        have HF := Lib.hid hnn
        clear hnn
        go_enter Tryd.func44, Tryd.ntmps44
        go_wp2
        refine bodyPost_ret (v := .tuple #[big false none 0 0, .bool false]) (by simp [results, Tryd.results44, go_sem, g0, g1]) rfl (HN.out HF.out _ ?_)
        first | exact hb0 | exact ((hb0.setCell (p := ⟨w.heap.size, 0, none⟩) (Nat.le_refl _) _).setCell (p := ⟨w.heap.size, 1, none⟩) (Nat.le_refl _) _)
      · have htp : 0 < t.size := by omega
        have hti : (0 : Int) < (t.size : Int) := by omega
        have htne : ¬ (t.size : Int) = 0 := by omega
        by_cases hh : t[0] = 48 ∧ (1 < t.size ∨ true = true)
        · have hnn := num_head HB.out.1 HB.out.2.1 htp hh
          have c48 : (t[0].toNat : Int) = 48 := by rw [hh.1]; rfl
          by_cases h1t : (1 : Int) < (t.size : Int)
          · clear hh
            have HF := Lib.hid hnn
            clear hnn
            go_enter Tryd.func44, Tryd.ntmps44
            go_wp2
            refine bodyPost_ret (v := .tuple #[big false none 0 0, .bool false]) (by simp [results, Tryd.results44, go_sem, g0, g1]) rfl (HN.out HF.out _ ?_)
            first | exact hb0 | exact ((hb0.setCell (p := ⟨w.heap.size, 0, none⟩) (Nat.le_refl _) _).setCell (p := ⟨w.heap.size, 1, none⟩) (Nat.le_refl _) _)
          · clear hh
            have HF := Lib.hid hnn
            clear hnn
            go_enter Tryd.func44, Tryd.ntmps44
            go_wp2
            refine bodyPost_ret (v := .tuple #[big false none 0 0, .bool false]) (by simp [results, Tryd.results44, go_sem, g0, g1]) rfl (HN.out HF.out _ ?_)
            first | exact hb0 | exact ((hb0.setCell (p := ⟨w.heap.size, 0, none⟩) (Nat.le_refl _) _).setCell (p := ⟨w.heap.size, 1, none⟩) (Nat.le_refl _) _)
        · have c48 : ¬ (t[0].toNat : Int) = 48 := fun e => hh ⟨UInt8.toNat_inj.1 (show t[0].toNat = (48 : UInt8).toNat from by have h48 : (48 : UInt8).toNat = 48 := rfl; omega), .inr rfl⟩
          have hdall : ∀ c ∈ t.data.toList.take 0, IsD c := by intro c hc; simp at hc
          have HG := Lib.hid hdall
          have HISN := Lib.hid (fun hd : (∀ c ∈ t.data.toList, IsD c) => isnum_of HB.out.1 HB.out.2.1 htp hh hd)
          clear hdall hh
          go_enter Tryd.func44, Tryd.ntmps44
          go_wp2
          go_loop [6] (fun iv => ∃ k : Nat, k ≤ t.size ∧ iv = .int .i64 k ∧ Hid (∀ c ∈ t.data.toList.take k, IsD c)) (fun iv => t.size - (intOf iv).toNat)
          case atStart => exact ⟨0, Nat.zero_le _, rfl, HG⟩
          case round =>
            obtain ⟨k, hk, rfl, H⟩ := hrel
            by_cases hlt : k < t.size
            · have hts2 := take_snoc t k hlt
              by_cases hdg : IsD t[k]
              · have hn : ∀ c ∈ t.data.toList.take (k + 1), IsD c := by
                  intro c hc
                  rw [hts2] at hc
                  rcases List.mem_append.1 hc with h | h
                  · exact H.out c h
                  · rw [List.mem_singleton.1 h]; exact hdg
                have HN2 := Lib.hid hn
                unfold IsD at hdg
                have c1 : (48 : Int) ≤ (t[k].toNat : Int) := by omega
                have c2 : (t[k].toNat : Int) ≤ 57 := by omega
                clear hn hts2 hdg
                go_wp2
                go_round
                case rel => exact ⟨k + 1, by omega, by go_num, HN2⟩
                case measure => simp [intOf]; omega
              · have HF := Lib.hid (num_digit HB.out.2.1 hlt hdg)
                unfold IsD at hdg
                clear hts2
                by_cases c1 : (t[k].toNat : Int) < 48
                · go_wp2
                  refine bodyPost_ret (v := .tuple #[big false none 0 0, .bool false]) (by simp [results, Tryd.results44, go_sem, g0, g1]) rfl (HN.out HF.out _ ?_)
                  first | exact hb0 | exact ((hb0.setCell (p := ⟨w.heap.size, 0, none⟩) (Nat.le_refl _) _).setCell (p := ⟨w.heap.size, 1, none⟩) (Nat.le_refl _) _)
                · have c2 : (57 : Int) < (t[k].toNat : Int) := by omega
                  go_wp2
                  refine bodyPost_ret (v := .tuple #[big false none 0 0, .bool false]) (by simp [results, Tryd.results44, go_sem, g0, g1]) rfl (HN.out HF.out _ ?_)
                  first | exact hb0 | exact ((hb0.setCell (p := ⟨w.heap.size, 0, none⟩) (Nat.le_refl _) _).setCell (p := ⟨w.heap.size, 1, none⟩) (Nat.le_refl _) _)
            · have hall : ∀ c ∈ t.data.toList, IsD c := by
                have := H.out
                rwa [List.take_of_length_le (by have : t.data.toList.length = t.size := by simp
                                                omega)] at this
              have HNUM := Lib.hid (HISN.out hall)
              have hdt : ∀ (j : Nat) (h : j < t.size), IsD t[j] := fun j h => hall _ (by show t.data[j] ∈ t.data.toList; exact Array.getElem_mem_toList _)
              have HDT := Lib.hid hdt
              have HALL := Lib.hid hall
              obtain rfl : k = t.size := by omega
              clear hall hdt H HG hk hlt
              go_wp2_with fail
              go_loopg [7, 8] t.size (fun g lv iv wr => ∃ (k : Nat) (A : Option Addr) (zs : List Nat) (c : Nat), iv = .int .i64 k ∧ k + g = t.size ∧ lv = .slice A zs.length c ∧ Sl .u32 wr wr.heap.size A zs ∧ Dig W32 zs ∧ Hid (Norm zs ∧ val W32 zs = dnum (t.data.toList.take k)) ∧ zs.length ≤ k ∧ zs.length ≤ c ∧ c ≤ maxLen ∧ Below (w.alloc (.cells #[.bool false, .slice none 0 0] 24)).heap.size (w.alloc (.cells #[.bool false, .slice none 0 0] 24)) wr)
              case atStart => exact ⟨0, none, [], 0, rfl, by omega, rfl, Sl.none_, Dig.nil _, Lib.hid ⟨Norm.nil, rfl⟩, Nat.le_refl _, Nat.le_refl _, Nat.zero_le _, Below.refl _ _⟩
              case round =>
                obtain ⟨k, A, zs, c, rfl, hkg, rfl, hsl, hzd, hz, hzk, hzc, hcm, hbl⟩ := hrel
                have hrr := hr.on hbl
                have hbw := hb0.trans (hbl.mono hb0.size)
                cases gk with
                | zero =>
                  obtain rfl : k = t.size := by omega
                  have hv := hz.out.2
                  rw [List.take_of_length_le (show t.data.toList.length ≤ t.size by simp)] at hv
                  have hsg := rsigned_any true A zs c wr hsl hzc hcm
                  rw [trimL_norm hz.out.1] at hsg
                  have hsv : sv (true && decide (0 < zs.length)) (val W32 zs) = numV s.data.toList := by
                    unfold numV
                    rw [HB.out.1, HB.out.2.1, ← hv]
                    rcases zs with _ | ⟨x, m⟩ <;> simp [sv, val]
                  have hsn : zs = [] → (true && decide (0 < zs.length)) = false := fun h => by rw [h]; rfl
                  have HS := Lib.hid hsg
                  have HV := Lib.hid (And.intro hz.out.1 (And.intro hsv hsn))
                  obtain ⟨n, hn⟩ : ∃ n, (true && decide (0 < zs.length)) = n := ⟨_, rfl⟩
                  rw [hn] at HS HV
                  clear hsg hsv hsn hv hz hkg hn
                  go_wp2_with fail
                  refine (HS.out).mono ?_
                  rintro e w5 ⟨A', c', rfl, hcase, hb5⟩
                  have hr5 := hrr.on hb5
                  have hb5w := hbw.trans (hb5.mono hbw.size)
                  have hsl5 : Sl .u32 w5 w5.heap.size A' zs := by
                    rcases hcase with ⟨_, rfl, _⟩ | ⟨h, _, _⟩
                    · exact (hsl.below hb5).more hb5.size
                    · exact fun h2 => absurd h2 (by omega)
                  have hcc : zs.length ≤ c' ∧ c' ≤ maxLen := by
                    rcases hcase with ⟨_, _, rfl⟩ | ⟨h, _, rfl⟩
                    · exact ⟨hzc, hcm⟩
                    · exact ⟨by omega, Nat.zero_le _⟩
                  have h1 := hsl5.keepAt hr5.r0 (by intro _ e; cases e) (.bool n)
                  have h2 : (w5.setCell ⟨w.heap.size, 0, none⟩ (.bool n)).cell? ⟨w.heap.size, 1, none⟩ = some (.slice none 0 0) := by rw [World.cell?_setCell_other _ _ _ _ (by simp)]; exact hr5.r1
                  have h3 := h1.keepAt h2 (by intro _ e; cases e) (.slice A' zs.length c')
                  have H3 := Lib.hid h3
                  have HC := Lib.hid hcc
                  clear h1 h2 h3 hcase hsl5 hcc
                  have g0 := hr5.r0
                  have g1 := hr5.r1
                  have g2 := hr5.f0
                  have g3 := hr5.f1
                  go_wp2
                  refine bodyPost_ret (v := .tuple #[big n A' zs.length c', .bool true]) (by simp [results, Tryd.results44, go_sem, g0, g1]) rfl ⟨n, A', zs, c', true, rfl, .inl ⟨rfl, HNUM.out, ?_, hzd, HV.out.1, HV.out.2.2, HC.out.1, HC.out.2, HV.out.2.1⟩, (hb5w.setCell (p := ⟨w.heap.size, 0, none⟩) (Nat.le_refl _) _).setCell (p := ⟨w.heap.size, 1, none⟩) (Nat.le_refl _) _⟩
                  simpa using H3.out
                | succ g1 =>
                  have hkt : k < t.size := by omega
                  have hki : (k : Int) < (t.size : Int) := by omega
                  go_wp2_with fail
                  go_loopg [8, 9, 10, 11] 9 (fun h iv pv fv jv wx => ∃ j : Nat, iv = .int .i64 (k + j : Nat) ∧ jv = .int .i64 j ∧ j + h = 9 ∧ k + j ≤ t.size ∧ pv = .int .u32 (dnum (bit t.data.toList k j) : Nat) ∧ fv = .int .u32 (10 ^ j : Nat) ∧ wx = wr)
                  case atStart => exact ⟨0, rfl, rfl, by omega, by omega, rfl, rfl, rfl⟩
                  case round =>
                    obtain ⟨j, rfl, rfl, hjg, hkj, rfl, rfl, rfl⟩ := hrel
                    have hlen9 : t.data.toList.length = t.size := by simp
                    have b2 := bit_len t.data.toList k j (by omega)
                    have b1 : dnum (bit t.data.toList k j) < 10 ^ (bit t.data.toList k j).length := dnum_lt (fun c hc => HALL.out c (List.mem_of_mem_drop (List.mem_of_mem_take hc)))
                    rw [b2] at b1
                    by_cases hlt : j < 9 ∧ k + j < t.size
                    · obtain ⟨hj9, hkt2⟩ := hlt
                      have hdk := HDT.out (k + j) hkt2
                      unfold IsD at hdk
                      have e1 := dnum_snoc (bit t.data.toList k j) t[k + j]
                      rw [← bit_snoc t k j hkt2] at e1
                      have b3 : 10 ^ j ≤ 10 ^ 8 := Nat.pow_le_pow_right (by decide) (by omega)
                      have e2 : 10 ^ (j + 1) = 10 ^ j * 10 := Nat.pow_succ ..
                      obtain ⟨T, hT⟩ : ∃ T, 10 ^ j = T := ⟨_, rfl⟩
                      obtain ⟨Gd, hGd⟩ : ∃ Gd, dnum (bit t.data.toList k j) = Gd := ⟨_, rfl⟩
                      rw [hT] at b1 b3 e2
                      rw [hGd] at b1 e1
                      have b4 : T ≤ 100000000 := b3
                      have E := Lib.hid (And.intro e1 e2)
                      have HJ := Lib.hid hjg
                      rw [hT, hGd]
                      clear e1 e2 b2 b3 hT hGd hlen9 hjg
                      obtain ⟨m, hm⟩ : ∃ m, k + j = m := ⟨_, rfl⟩
                      have c1 : (48 : Int) ≤ (t[k + j].toNat : Int) := by omega
                      have c2 : (t[k + j].toNat : Int) ≤ 57 := by omega
                      have c3 : (T : Int) ≤ 100000000 := by omega
                      have c4 : (Gd : Int) ≤ 100000000 := by omega
                      have c5 : (j : Int) < 9 := by omega
                      simp only [hm] at *
                      have HM := Lib.hid hm
                      clear hm
                      have c6 : (m : Int) < (t.size : Int) := by omega
                      go_wp2
                      go_roundg (gk - 1)
                      case measure => have := HJ.out; omega
                      case rel =>
                        refine ⟨j + 1, ?_, by go_num, by have := HJ.out; omega, by have := HM.out; omega, ?_, ?_, rfl⟩
                        · have := HM.out; go_num
                        · rw [E.out.1]; congr 1; omega
                        · rw [E.out.2]; congr 1; omega
                    · have hj1 : 1 ≤ j := by omega
                      have b3 : 10 ^ j ≤ 10 ^ 9 := Nat.pow_le_pow_right (by decide) (by omega)
                      have b4 : 10 ^ j ≤ 4294967295 := Nat.le_trans b3 (by decide)
                      have hTT := rtimes_any A zs c (10 ^ j) wr hsl hzd b4 (by omega)
                      have htk : dnum (t.data.toList.take (k + j)) = 10 ^ j * val W32 zs + dnum (bit t.data.toList k j) := by
                        rw [bit_take, dnum_append, b2, hz.out.2, Nat.mul_comm]
                      have hlp : dnum (t.data.toList.take (k + j)) < W32 ^ (k + j) := by
                        have h1 : dnum (t.data.toList.take (k + j)) < 10 ^ (t.data.toList.take (k + j)).length := dnum_lt (fun c hc => HALL.out c (List.mem_of_mem_take hc))
                        rw [List.length_take, Nat.min_eq_left (by omega)] at h1
                        exact Nat.lt_of_lt_of_le h1 (pow10_W32 _)
                      have HE := Lib.hid (And.intro htk hlp)
                      have hbw2 : wr.heap.size ≤ wr.heap.size := Nat.le_refl _
                      obtain ⟨T, hT⟩ : ∃ T, 10 ^ j = T := ⟨_, rfl⟩
                      obtain ⟨Gd, hGd⟩ : ∃ Gd, dnum (bit t.data.toList k j) = Gd := ⟨_, rfl⟩
                      rw [hT] at b1 b3 b4 hTT HE
                      rw [hGd] at b1 HE
                      have hG : Gd ≤ 4294967295 := by omega
                      rw [hT, hGd]
                      have HT := Lib.hid hTT
                      have HJ := Lib.hid (And.intro hjg hkg)
                      clear b1 b2 b3 hTT htk hlp hT hGd hz hlen9 hjg hkg hbw2
                      have hway : ¬ (j : Int) < 9 ∨ ((j : Int) < 9 ∧ ¬ (k : Int) + (j : Int) < (t.size : Int)) := by omega
                      clear hlt
                      rcases hway with hw1 | ⟨hw1, hw2⟩
                      all_goals
                        go_wp2_with fail
                        refine (HT.out).mono ?_
                        rintro e w2 ⟨v, rfl, B2, us, cu, rfl, hu1, hud, hun, huv, huc, hul, hb2⟩
                        have HU := Lib.hid (And.intro hun huv)
                        clear hun huv
                        go_wp2_with fail
                        have hrow : Row .u32 (w2.alloc (.cells #[.int .u32 (Gd : Nat)] 54)) w2.heap.size 54 [Gd] := heap_alloc_new _ _
                        have hba : Below w2.heap.size w2 (w2.alloc (.cells #[.int .u32 (Gd : Nat)] 54)) := by go_grown
                        generalize hW : w2.alloc (.cells #[.int .u32 (Gd : Nat)] 54) = W at *
                        clear hW
                        have hd1 : Dig W32 [Gd] := Dig.one (show Gd < 4294967296 by omega)
                        have hs1 := hrow.sl hrow.lt
                        have hTr : Calls Tryd.prog 75 #[.slice (some ⟨w2.heap.size, 0, none⟩) 1 1] W fun e w' => e = .returned (.slice (some ⟨w2.heap.size, 0, none⟩) (trimL [Gd]).length 1) ∧ W = w' :=
                          rtrim_any (some ⟨w2.heap.size, 0, none⟩) [Gd] 1 W hs1 (Nat.le_refl _) (by unfold maxLen; omega)
                        have htl := trimL_len [Gd]
                        simp only [List.length_cons, List.length_nil, Nat.zero_add] at htl
                        have hA := radd_any B2 (some ⟨w2.heap.size, 0, none⟩) us (trimL [Gd]) cu 1 (zs.length + 2) W ((hu1.below hba).more hba.size) (sl_trimL hs1) hud (dig_trimL hd1) (by omega) (by omega) (by omega)
                        have hv1 : val W32 (trimL [Gd]) = Gd := by rw [val_trimL]; simp [val]
                        rw [hv1] at hA
                        have HTr := Lib.hid hTr
                        have HA := Lib.hid hA
                        have hbW : Below wr.heap.size wr W := hb2.trans (hba.mono hb2.size)
                        clear hTr hA hv1 hs1 hrow hd1 hba
                        refine (HTr.out).mono ?_
                        rintro e w5 ⟨rfl, rfl⟩
                        go_wp2_with fail
                        refine (HA.out).mono ?_
                        rintro e w6 ⟨v6, rfl, A6, z6, k6, rfl, hy1, hyd, hyv, hyc, hym, hyl, hb6⟩
                        have HY := Lib.hid hyv
                        have HTr2 := Lib.hid (rtrim_any A6 z6 k6 w6 hy1 hyc hym)
                        have hbl6 := hbl.trans ((hbW.trans (hb6.mono hbW.size)).mono hbl.size)
                        clear hyv
                        go_wp2_with fail
                        refine (HTr2.out).mono ?_
                        rintro e w7 ⟨rfl, rfl⟩
                        go_wp2_with fail
                        go_roundg (t.size - (k + j))
                        case measure => have := HJ.out.2; omega
                        case rel =>
                          have hvv : val W32 (trimL z6) = dnum (t.data.toList.take (k + j)) := by rw [val_trimL, HY.out, HU.out.2, HE.out.1]
                          have hln := trimL_len z6
                          exact ⟨k + j, A6, trimL z6, k6, by first | rfl | go_num, by omega, rfl, sl_trimL hy1, dig_trimL hyd, Lib.hid ⟨norm_trimL _, hvv⟩, len_pow (B := W32) (by decide) (norm_trimL _) (by rw [hvv]; exact HE.out.2), by omega, hym, hbl6⟩
    · have hm : minus s.data.toList = false := by
        cases hl : s.data.toList with
        | nil => rw [hl] at hll; simp at hll; omega
        | cons x m =>
          have h2 : s.data.toList[0]'(by rw [hl]; simp) = x := by simp [hl]
          have h3 : s[0] = x := by rw [← h2]; show s.data[0] = _; simp
          rw [minus_cons, ← h3]
          exact beq_false_of_ne (fun e => h45 e.symm)
      have hbd : body s.data.toList = s.data.toList := by unfold body; rw [hm]; rfl
      have c45 : ¬ (s[0].toNat : Int) = 45 := fun e => h45 (UInt8.toNat_inj.1 (show s[0].toNat = (45 : UInt8).toNat from by have h48 : (45 : UInt8).toNat = 45 := rfl; omega))
      have hsi : (0 : Int) < (s.size : Int) := by omega
      have hsne : ¬ (s.size : Int) = 0 := by omega
      have hs0 : ¬ s.size = 0 := by omega
      have htp : 0 < s.size := h0
      have HB := Lib.hid (And.intro hm (And.intro hbd trivial))
      clear hm hbd h45 hll
      by_cases hh : s[0] = 48 ∧ (1 < s.size ∨ false = true)
      · have hnn := num_head HB.out.1 HB.out.2.1 htp hh
        have c48 : (s[0].toNat : Int) = 48 := by rw [hh.1]; rfl
        have h1t : (1 : Int) < (s.size : Int) := by rcases hh.2 with h | h; omega; cases h
        clear hh
        have HF := Lib.hid hnn
        clear hnn
        go_enter Tryd.func44, Tryd.ntmps44
        go_wp2
        refine bodyPost_ret (v := .tuple #[big false none 0 0, .bool false]) (by simp [results, Tryd.results44, go_sem, g0, g1]) rfl (HN.out HF.out _ ?_)
        first | exact hb0 | exact ((hb0.setCell (p := ⟨w.heap.size, 0, none⟩) (Nat.le_refl _) _).setCell (p := ⟨w.heap.size, 1, none⟩) (Nat.le_refl _) _)
      · by_cases c48 : (s[0].toNat : Int) = 48
        · have h1t : ¬ (1 : Int) < (s.size : Int) := fun h => hh ⟨UInt8.toNat_inj.1 (show s[0].toNat = (48 : UInt8).toNat from by have h48 : (48 : UInt8).toNat = 48 := rfl; omega), .inl (by omega)⟩
          have h1e : (s.size : Int) = 1 := by omega
          have hdall : ∀ c ∈ s.data.toList.take 0, IsD c := by intro c hc; simp at hc
          have HG := Lib.hid hdall
          have HISN := Lib.hid (fun hd : (∀ c ∈ s.data.toList, IsD c) => isnum_of HB.out.1 HB.out.2.1 htp hh hd)
          clear hdall hh
          go_enter Tryd.func44, Tryd.ntmps44
          go_wp2
          clear h1e h1t c48
          go_loop [6] (fun iv => ∃ k : Nat, k ≤ s.size ∧ iv = .int .i64 k ∧ Hid (∀ c ∈ s.data.toList.take k, IsD c)) (fun iv => s.size - (intOf iv).toNat)
          case atStart => exact ⟨0, Nat.zero_le _, rfl, HG⟩
          case round =>
            obtain ⟨k, hk, rfl, H⟩ := hrel
            by_cases hlt : k < s.size
            · have hts2 := take_snoc s k hlt
              by_cases hdg : IsD s[k]
              · have hn : ∀ c ∈ s.data.toList.take (k + 1), IsD c := by
                  intro c hc
                  rw [hts2] at hc
                  rcases List.mem_append.1 hc with h | h
                  · exact H.out c h
                  · rw [List.mem_singleton.1 h]; exact hdg
                have HN2 := Lib.hid hn
                unfold IsD at hdg
                have c1 : (48 : Int) ≤ (s[k].toNat : Int) := by omega
                have c2 : (s[k].toNat : Int) ≤ 57 := by omega
                clear hn hts2 hdg
                go_wp2
                go_round
                case rel => exact ⟨k + 1, by omega, by go_num, HN2⟩
                case measure => simp [intOf]; omega
              · have HF := Lib.hid (num_digit HB.out.2.1 hlt hdg)
                unfold IsD at hdg
                clear hts2
                by_cases c1 : (s[k].toNat : Int) < 48
                · go_wp2
                  refine bodyPost_ret (v := .tuple #[big false none 0 0, .bool false]) (by simp [results, Tryd.results44, go_sem, g0, g1]) rfl (HN.out HF.out _ ?_)
                  first | exact hb0 | exact ((hb0.setCell (p := ⟨w.heap.size, 0, none⟩) (Nat.le_refl _) _).setCell (p := ⟨w.heap.size, 1, none⟩) (Nat.le_refl _) _)
                · have c2 : (57 : Int) < (s[k].toNat : Int) := by omega
                  go_wp2
                  refine bodyPost_ret (v := .tuple #[big false none 0 0, .bool false]) (by simp [results, Tryd.results44, go_sem, g0, g1]) rfl (HN.out HF.out _ ?_)
                  first | exact hb0 | exact ((hb0.setCell (p := ⟨w.heap.size, 0, none⟩) (Nat.le_refl _) _).setCell (p := ⟨w.heap.size, 1, none⟩) (Nat.le_refl _) _)
            · have hall : ∀ c ∈ s.data.toList, IsD c := by
                have := H.out
                rwa [List.take_of_length_le (by have : s.data.toList.length = s.size := by simp
                                                omega)] at this
              have HNUM := Lib.hid (HISN.out hall)
              have hdt : ∀ (j : Nat) (h : j < s.size), IsD s[j] := fun j h => hall _ (by show s.data[j] ∈ s.data.toList; exact Array.getElem_mem_toList _)
              have HDT := Lib.hid hdt
              have HALL := Lib.hid hall
              obtain rfl : k = s.size := by omega
              clear hall hdt H HG hk hlt
              go_wp2_with fail
              go_loopg [7, 8] s.size (fun g lv iv wr => ∃ (k : Nat) (A : Option Addr) (zs : List Nat) (c : Nat), iv = .int .i64 k ∧ k + g = s.size ∧ lv = .slice A zs.length c ∧ Sl .u32 wr wr.heap.size A zs ∧ Dig W32 zs ∧ Hid (Norm zs ∧ val W32 zs = dnum (s.data.toList.take k)) ∧ zs.length ≤ k ∧ zs.length ≤ c ∧ c ≤ maxLen ∧ Below (w.alloc (.cells #[.bool false, .slice none 0 0] 24)).heap.size (w.alloc (.cells #[.bool false, .slice none 0 0] 24)) wr)
              case atStart => exact ⟨0, none, [], 0, rfl, by omega, rfl, Sl.none_, Dig.nil _, Lib.hid ⟨Norm.nil, rfl⟩, Nat.le_refl _, Nat.le_refl _, Nat.zero_le _, Below.refl _ _⟩
              case round =>
                obtain ⟨k, A, zs, c, rfl, hkg, rfl, hsl, hzd, hz, hzk, hzc, hcm, hbl⟩ := hrel
                have hrr := hr.on hbl
                have hbw := hb0.trans (hbl.mono hb0.size)
                cases gk with
                | zero =>
                  obtain rfl : k = s.size := by omega
                  have hv := hz.out.2
                  rw [List.take_of_length_le (show s.data.toList.length ≤ s.size by simp)] at hv
                  have hsg := rsigned_any false A zs c wr hsl hzc hcm
                  rw [trimL_norm hz.out.1] at hsg
                  have hsv : sv (false && decide (0 < zs.length)) (val W32 zs) = numV s.data.toList := by
                    unfold numV
                    rw [HB.out.1, HB.out.2.1, ← hv]
                    rcases zs with _ | ⟨x, m⟩ <;> simp [sv, val]
                  have hsn : zs = [] → (false && decide (0 < zs.length)) = false := fun h => by rw [h]; rfl
                  have HS := Lib.hid hsg
                  have HV := Lib.hid (And.intro hz.out.1 (And.intro hsv hsn))
                  obtain ⟨n, hn⟩ : ∃ n, (false && decide (0 < zs.length)) = n := ⟨_, rfl⟩
                  rw [hn] at HS HV
                  clear hsg hsv hsn hv hz hkg hn
                  go_wp2_with fail
                  refine (HS.out).mono ?_
                  rintro e w5 ⟨A', c', rfl, hcase, hb5⟩
                  have hr5 := hrr.on hb5
                  have hb5w := hbw.trans (hb5.mono hbw.size)
                  have hsl5 : Sl .u32 w5 w5.heap.size A' zs := by
                    rcases hcase with ⟨_, rfl, _⟩ | ⟨h, _, _⟩
                    · exact (hsl.below hb5).more hb5.size
                    · exact fun h2 => absurd h2 (by omega)
                  have hcc : zs.length ≤ c' ∧ c' ≤ maxLen := by
                    rcases hcase with ⟨_, _, rfl⟩ | ⟨h, _, rfl⟩
                    · exact ⟨hzc, hcm⟩
                    · exact ⟨by omega, Nat.zero_le _⟩
                  have h1 := hsl5.keepAt hr5.r0 (by intro _ e; cases e) (.bool n)
                  have h2 : (w5.setCell ⟨w.heap.size, 0, none⟩ (.bool n)).cell? ⟨w.heap.size, 1, none⟩ = some (.slice none 0 0) := by rw [World.cell?_setCell_other _ _ _ _ (by simp)]; exact hr5.r1
                  have h3 := h1.keepAt h2 (by intro _ e; cases e) (.slice A' zs.length c')
                  have H3 := Lib.hid h3
                  have HC := Lib.hid hcc
                  clear h1 h2 h3 hcase hsl5 hcc
                  have g0 := hr5.r0
                  have g1 := hr5.r1
                  have g2 := hr5.f0
                  have g3 := hr5.f1
                  go_wp2
                  refine bodyPost_ret (v := .tuple #[big n A' zs.length c', .bool true]) (by simp [results, Tryd.results44, go_sem, g0, g1]) rfl ⟨n, A', zs, c', true, rfl, .inl ⟨rfl, HNUM.out, ?_, hzd, HV.out.1, HV.out.2.2, HC.out.1, HC.out.2, HV.out.2.1⟩, (hb5w.setCell (p := ⟨w.heap.size, 0, none⟩) (Nat.le_refl _) _).setCell (p := ⟨w.heap.size, 1, none⟩) (Nat.le_refl _) _⟩
                  simpa using H3.out
                | succ g1 =>
                  have hkt : k < s.size := by omega
                  have hki : (k : Int) < (s.size : Int) := by omega
                  go_wp2_with fail
                  go_loopg [8, 9, 10, 11] 9 (fun h iv pv fv jv wx => ∃ j : Nat, iv = .int .i64 (k + j : Nat) ∧ jv = .int .i64 j ∧ j + h = 9 ∧ k + j ≤ s.size ∧ pv = .int .u32 (dnum (bit s.data.toList k j) : Nat) ∧ fv = .int .u32 (10 ^ j : Nat) ∧ wx = wr)
                  case atStart => exact ⟨0, rfl, rfl, by omega, by omega, rfl, rfl, rfl⟩
                  case round =>
                    obtain ⟨j, rfl, rfl, hjg, hkj, rfl, rfl, rfl⟩ := hrel
                    have hlen9 : s.data.toList.length = s.size := by simp
                    have b2 := bit_len s.data.toList k j (by omega)
                    have b1 : dnum (bit s.data.toList k j) < 10 ^ (bit s.data.toList k j).length := dnum_lt (fun c hc => HALL.out c (List.mem_of_mem_drop (List.mem_of_mem_take hc)))
                    rw [b2] at b1
                    by_cases hlt : j < 9 ∧ k + j < s.size
                    · obtain ⟨hj9, hkt2⟩ := hlt
                      have hdk := HDT.out (k + j) hkt2
                      unfold IsD at hdk
                      have e1 := dnum_snoc (bit s.data.toList k j) s[k + j]
                      rw [← bit_snoc s k j hkt2] at e1
                      have b3 : 10 ^ j ≤ 10 ^ 8 := Nat.pow_le_pow_right (by decide) (by omega)
                      have e2 : 10 ^ (j + 1) = 10 ^ j * 10 := Nat.pow_succ ..
                      obtain ⟨T, hT⟩ : ∃ T, 10 ^ j = T := ⟨_, rfl⟩
                      obtain ⟨Gd, hGd⟩ : ∃ Gd, dnum (bit s.data.toList k j) = Gd := ⟨_, rfl⟩
                      rw [hT] at b1 b3 e2
                      rw [hGd] at b1 e1
                      have b4 : T ≤ 100000000 := b3
                      have E := Lib.hid (And.intro e1 e2)
                      have HJ := Lib.hid hjg
                      rw [hT, hGd]
                      clear e1 e2 b2 b3 hT hGd hlen9 hjg
                      obtain ⟨m, hm⟩ : ∃ m, k + j = m := ⟨_, rfl⟩
                      have c1 : (48 : Int) ≤ (s[k + j].toNat : Int) := by omega
                      have c2 : (s[k + j].toNat : Int) ≤ 57 := by omega
                      have c3 : (T : Int) ≤ 100000000 := by omega
                      have c4 : (Gd : Int) ≤ 100000000 := by omega
                      have c5 : (j : Int) < 9 := by omega
                      simp only [hm] at *
                      have HM := Lib.hid hm
                      clear hm
                      have c6 : (m : Int) < (s.size : Int) := by omega
                      go_wp2
                      go_roundg (gk - 1)
                      case measure => have := HJ.out; omega
                      case rel =>
                        refine ⟨j + 1, ?_, by go_num, by have := HJ.out; omega, by have := HM.out; omega, ?_, ?_, rfl⟩
                        · have := HM.out; go_num
                        · rw [E.out.1]; congr 1; omega
                        · rw [E.out.2]; congr 1; omega
                    · have hj1 : 1 ≤ j := by omega
                      have b3 : 10 ^ j ≤ 10 ^ 9 := Nat.pow_le_pow_right (by decide) (by omega)
                      have b4 : 10 ^ j ≤ 4294967295 := Nat.le_trans b3 (by decide)
                      have hTT := rtimes_any A zs c (10 ^ j) wr hsl hzd b4 (by omega)
                      have htk : dnum (s.data.toList.take (k + j)) = 10 ^ j * val W32 zs + dnum (bit s.data.toList k j) := by
                        rw [bit_take, dnum_append, b2, hz.out.2, Nat.mul_comm]
                      have hlp : dnum (s.data.toList.take (k + j)) < W32 ^ (k + j) := by
                        have h1 : dnum (s.data.toList.take (k + j)) < 10 ^ (s.data.toList.take (k + j)).length := dnum_lt (fun c hc => HALL.out c (List.mem_of_mem_take hc))
                        rw [List.length_take, Nat.min_eq_left (by omega)] at h1
                        exact Nat.lt_of_lt_of_le h1 (pow10_W32 _)
                      have HE := Lib.hid (And.intro htk hlp)
                      have hbw2 : wr.heap.size ≤ wr.heap.size := Nat.le_refl _
                      obtain ⟨T, hT⟩ : ∃ T, 10 ^ j = T := ⟨_, rfl⟩
                      obtain ⟨Gd, hGd⟩ : ∃ Gd, dnum (bit s.data.toList k j) = Gd := ⟨_, rfl⟩
                      rw [hT] at b1 b3 b4 hTT HE
                      rw [hGd] at b1 HE
                      have hG : Gd ≤ 4294967295 := by omega
                      rw [hT, hGd]
                      have HT := Lib.hid hTT
                      have HJ := Lib.hid (And.intro hjg hkg)
                      clear b1 b2 b3 hTT htk hlp hT hGd hz hlen9 hjg hkg hbw2
                      have hway : ¬ (j : Int) < 9 ∨ ((j : Int) < 9 ∧ ¬ (k : Int) + (j : Int) < (s.size : Int)) := by omega
                      clear hlt
                      rcases hway with hw1 | ⟨hw1, hw2⟩
                      all_goals
                        go_wp2_with fail
                        refine (HT.out).mono ?_
                        rintro e w2 ⟨v, rfl, B2, us, cu, rfl, hu1, hud, hun, huv, huc, hul, hb2⟩
                        have HU := Lib.hid (And.intro hun huv)
                        clear hun huv
                        go_wp2_with fail
                        have hrow : Row .u32 (w2.alloc (.cells #[.int .u32 (Gd : Nat)] 54)) w2.heap.size 54 [Gd] := heap_alloc_new _ _
                        have hba : Below w2.heap.size w2 (w2.alloc (.cells #[.int .u32 (Gd : Nat)] 54)) := by go_grown
                        generalize hW : w2.alloc (.cells #[.int .u32 (Gd : Nat)] 54) = W at *
                        clear hW
                        have hd1 : Dig W32 [Gd] := Dig.one (show Gd < 4294967296 by omega)
                        have hs1 := hrow.sl hrow.lt
                        have hTr : Calls Tryd.prog 75 #[.slice (some ⟨w2.heap.size, 0, none⟩) 1 1] W fun e w' => e = .returned (.slice (some ⟨w2.heap.size, 0, none⟩) (trimL [Gd]).length 1) ∧ W = w' :=
                          rtrim_any (some ⟨w2.heap.size, 0, none⟩) [Gd] 1 W hs1 (Nat.le_refl _) (by unfold maxLen; omega)
                        have htl := trimL_len [Gd]
                        simp only [List.length_cons, List.length_nil, Nat.zero_add] at htl
                        have hA := radd_any B2 (some ⟨w2.heap.size, 0, none⟩) us (trimL [Gd]) cu 1 (zs.length + 2) W ((hu1.below hba).more hba.size) (sl_trimL hs1) hud (dig_trimL hd1) (by omega) (by omega) (by omega)
                        have hv1 : val W32 (trimL [Gd]) = Gd := by rw [val_trimL]; simp [val]
                        rw [hv1] at hA
                        have HTr := Lib.hid hTr
                        have HA := Lib.hid hA
                        have hbW : Below wr.heap.size wr W := hb2.trans (hba.mono hb2.size)
                        clear hTr hA hv1 hs1 hrow hd1 hba
                        refine (HTr.out).mono ?_
                        rintro e w5 ⟨rfl, rfl⟩
                        go_wp2_with fail
                        refine (HA.out).mono ?_
                        rintro e w6 ⟨v6, rfl, A6, z6, k6, rfl, hy1, hyd, hyv, hyc, hym, hyl, hb6⟩
                        have HY := Lib.hid hyv
                        have HTr2 := Lib.hid (rtrim_any A6 z6 k6 w6 hy1 hyc hym)
                        have hbl6 := hbl.trans ((hbW.trans (hb6.mono hbW.size)).mono hbl.size)
                        clear hyv
                        go_wp2_with fail
                        refine (HTr2.out).mono ?_
                        rintro e w7 ⟨rfl, rfl⟩
                        go_wp2_with fail
                        go_roundg (s.size - (k + j))
                        case measure => have := HJ.out.2; omega
                        case rel =>
                          have hvv : val W32 (trimL z6) = dnum (s.data.toList.take (k + j)) := by rw [val_trimL, HY.out, HU.out.2, HE.out.1]
                          have hln := trimL_len z6
                          exact ⟨k + j, A6, trimL z6, k6, by first | rfl | go_num, by omega, rfl, sl_trimL hy1, dig_trimL hyd, Lib.hid ⟨norm_trimL _, hvv⟩, len_pow (B := W32) (by decide) (norm_trimL _) (by rw [hvv]; exact HE.out.2), by omega, hym, hbl6⟩
        · have h99 := c48
          clear h99
          have hdall : ∀ c ∈ s.data.toList.take 0, IsD c := by intro c hc; simp at hc
          have HG := Lib.hid hdall
          have HISN := Lib.hid (fun hd : (∀ c ∈ s.data.toList, IsD c) => isnum_of HB.out.1 HB.out.2.1 htp hh hd)
          clear hdall hh
          go_enter Tryd.func44, Tryd.ntmps44
          go_wp2
          go_loop [6] (fun iv => ∃ k : Nat, k ≤ s.size ∧ iv = .int .i64 k ∧ Hid (∀ c ∈ s.data.toList.take k, IsD c)) (fun iv => s.size - (intOf iv).toNat)
          case atStart => exact ⟨0, Nat.zero_le _, rfl, HG⟩
          case round =>
            obtain ⟨k, hk, rfl, H⟩ := hrel
            by_cases hlt : k < s.size
            · have hts2 := take_snoc s k hlt
              by_cases hdg : IsD s[k]
              · have hn : ∀ c ∈ s.data.toList.take (k + 1), IsD c := by
                  intro c hc
                  rw [hts2] at hc
                  rcases List.mem_append.1 hc with h | h
                  · exact H.out c h
                  · rw [List.mem_singleton.1 h]; exact hdg
                have HN2 := Lib.hid hn
                unfold IsD at hdg
                have c1 : (48 : Int) ≤ (s[k].toNat : Int) := by omega
                have c2 : (s[k].toNat : Int) ≤ 57 := by omega
                clear hn hts2 hdg
                go_wp2
                go_round
                case rel => exact ⟨k + 1, by omega, by go_num, HN2⟩
                case measure => simp [intOf]; omega
              · have HF := Lib.hid (num_digit HB.out.2.1 hlt hdg)
                unfold IsD at hdg
                clear hts2
                by_cases c1 : (s[k].toNat : Int) < 48
                · go_wp2
                  refine bodyPost_ret (v := .tuple #[big false none 0 0, .bool false]) (by simp [results, Tryd.results44, go_sem, g0, g1]) rfl (HN.out HF.out _ ?_)
                  first | exact hb0 | exact ((hb0.setCell (p := ⟨w.heap.size, 0, none⟩) (Nat.le_refl _) _).setCell (p := ⟨w.heap.size, 1, none⟩) (Nat.le_refl _) _)
                · have c2 : (57 : Int) < (s[k].toNat : Int) := by omega
                  go_wp2
                  refine bodyPost_ret (v := .tuple #[big false none 0 0, .bool false]) (by simp [results, Tryd.results44, go_sem, g0, g1]) rfl (HN.out HF.out _ ?_)
                  first | exact hb0 | exact ((hb0.setCell (p := ⟨w.heap.size, 0, none⟩) (Nat.le_refl _) _).setCell (p := ⟨w.heap.size, 1, none⟩) (Nat.le_refl _) _)
            · have hall : ∀ c ∈ s.data.toList, IsD c := by
                have := H.out
                rwa [List.take_of_length_le (by have : s.data.toList.length = s.size := by simp
                                                omega)] at this
              have HNUM := Lib.hid (HISN.out hall)
              have hdt : ∀ (j : Nat) (h : j < s.size), IsD s[j] := fun j h => hall _ (by show s.data[j] ∈ s.data.toList; exact Array.getElem_mem_toList _)
              have HDT := Lib.hid hdt
              have HALL := Lib.hid hall
              obtain rfl : k = s.size := by omega
              clear hall hdt H HG hk hlt
              go_wp2_with fail
              go_loopg [7, 8] s.size (fun g lv iv wr => ∃ (k : Nat) (A : Option Addr) (zs : List Nat) (c : Nat), iv = .int .i64 k ∧ k + g = s.size ∧ lv = .slice A zs.length c ∧ Sl .u32 wr wr.heap.size A zs ∧ Dig W32 zs ∧ Hid (Norm zs ∧ val W32 zs = dnum (s.data.toList.take k)) ∧ zs.length ≤ k ∧ zs.length ≤ c ∧ c ≤ maxLen ∧ Below (w.alloc (.cells #[.bool false, .slice none 0 0] 24)).heap.size (w.alloc (.cells #[.bool false, .slice none 0 0] 24)) wr)
              case atStart => exact ⟨0, none, [], 0, rfl, by omega, rfl, Sl.none_, Dig.nil _, Lib.hid ⟨Norm.nil, rfl⟩, Nat.le_refl _, Nat.le_refl _, Nat.zero_le _, Below.refl _ _⟩
              case round =>
                obtain ⟨k, A, zs, c, rfl, hkg, rfl, hsl, hzd, hz, hzk, hzc, hcm, hbl⟩ := hrel
                have hrr := hr.on hbl
                have hbw := hb0.trans (hbl.mono hb0.size)
                cases gk with
                | zero =>
                  obtain rfl : k = s.size := by omega
                  have hv := hz.out.2
                  rw [List.take_of_length_le (show s.data.toList.length ≤ s.size by simp)] at hv
                  have hsg := rsigned_any false A zs c wr hsl hzc hcm
                  rw [trimL_norm hz.out.1] at hsg
                  have hsv : sv (false && decide (0 < zs.length)) (val W32 zs) = numV s.data.toList := by
                    unfold numV
                    rw [HB.out.1, HB.out.2.1, ← hv]
                    rcases zs with _ | ⟨x, m⟩ <;> simp [sv, val]
                  have hsn : zs = [] → (false && decide (0 < zs.length)) = false := fun h => by rw [h]; rfl
                  have HS := Lib.hid hsg
                  have HV := Lib.hid (And.intro hz.out.1 (And.intro hsv hsn))
                  obtain ⟨n, hn⟩ : ∃ n, (false && decide (0 < zs.length)) = n := ⟨_, rfl⟩
                  rw [hn] at HS HV
                  clear hsg hsv hsn hv hz hkg hn
                  go_wp2_with fail
                  refine (HS.out).mono ?_
                  rintro e w5 ⟨A', c', rfl, hcase, hb5⟩
                  have hr5 := hrr.on hb5
                  have hb5w := hbw.trans (hb5.mono hbw.size)
                  have hsl5 : Sl .u32 w5 w5.heap.size A' zs := by
                    rcases hcase with ⟨_, rfl, _⟩ | ⟨h, _, _⟩
                    · exact (hsl.below hb5).more hb5.size
                    · exact fun h2 => absurd h2 (by omega)
                  have hcc : zs.length ≤ c' ∧ c' ≤ maxLen := by
                    rcases hcase with ⟨_, _, rfl⟩ | ⟨h, _, rfl⟩
                    · exact ⟨hzc, hcm⟩
                    · exact ⟨by omega, Nat.zero_le _⟩
                  have h1 := hsl5.keepAt hr5.r0 (by intro _ e; cases e) (.bool n)
                  have h2 : (w5.setCell ⟨w.heap.size, 0, none⟩ (.bool n)).cell? ⟨w.heap.size, 1, none⟩ = some (.slice none 0 0) := by rw [World.cell?_setCell_other _ _ _ _ (by simp)]; exact hr5.r1
                  have h3 := h1.keepAt h2 (by intro _ e; cases e) (.slice A' zs.length c')
                  have H3 := Lib.hid h3
                  have HC := Lib.hid hcc
                  clear h1 h2 h3 hcase hsl5 hcc
                  have g0 := hr5.r0
                  have g1 := hr5.r1
                  have g2 := hr5.f0
                  have g3 := hr5.f1
                  go_wp2
                  refine bodyPost_ret (v := .tuple #[big n A' zs.length c', .bool true]) (by simp [results, Tryd.results44, go_sem, g0, g1]) rfl ⟨n, A', zs, c', true, rfl, .inl ⟨rfl, HNUM.out, ?_, hzd, HV.out.1, HV.out.2.2, HC.out.1, HC.out.2, HV.out.2.1⟩, (hb5w.setCell (p := ⟨w.heap.size, 0, none⟩) (Nat.le_refl _) _).setCell (p := ⟨w.heap.size, 1, none⟩) (Nat.le_refl _) _⟩
                  simpa using H3.out
                | succ g1 =>
                  have hkt : k < s.size := by omega
                  have hki : (k : Int) < (s.size : Int) := by omega
                  go_wp2_with fail
                  go_loopg [8, 9, 10, 11] 9 (fun h iv pv fv jv wx => ∃ j : Nat, iv = .int .i64 (k + j : Nat) ∧ jv = .int .i64 j ∧ j + h = 9 ∧ k + j ≤ s.size ∧ pv = .int .u32 (dnum (bit s.data.toList k j) : Nat) ∧ fv = .int .u32 (10 ^ j : Nat) ∧ wx = wr)
                  case atStart => exact ⟨0, rfl, rfl, by omega, by omega, rfl, rfl, rfl⟩
                  case round =>
                    obtain ⟨j, rfl, rfl, hjg, hkj, rfl, rfl, rfl⟩ := hrel
                    have hlen9 : s.data.toList.length = s.size := by simp
                    have b2 := bit_len s.data.toList k j (by omega)
                    have b1 : dnum (bit s.data.toList k j) < 10 ^ (bit s.data.toList k j).length := dnum_lt (fun c hc => HALL.out c (List.mem_of_mem_drop (List.mem_of_mem_take hc)))
                    rw [b2] at b1
                    by_cases hlt : j < 9 ∧ k + j < s.size
                    · obtain ⟨hj9, hkt2⟩ := hlt
                      have hdk := HDT.out (k + j) hkt2
                      unfold IsD at hdk
                      have e1 := dnum_snoc (bit s.data.toList k j) s[k + j]
                      rw [← bit_snoc s k j hkt2] at e1
                      have b3 : 10 ^ j ≤ 10 ^ 8 := Nat.pow_le_pow_right (by decide) (by omega)
                      have e2 : 10 ^ (j + 1) = 10 ^ j * 10 := Nat.pow_succ ..
                      obtain ⟨T, hT⟩ : ∃ T, 10 ^ j = T := ⟨_, rfl⟩
                      obtain ⟨Gd, hGd⟩ : ∃ Gd, dnum (bit s.data.toList k j) = Gd := ⟨_, rfl⟩
                      rw [hT] at b1 b3 e2
                      rw [hGd] at b1 e1
                      have b4 : T ≤ 100000000 := b3
                      have E := Lib.hid (And.intro e1 e2)
                      have HJ := Lib.hid hjg
                      rw [hT, hGd]
                      clear e1 e2 b2 b3 hT hGd hlen9 hjg
                      obtain ⟨m, hm⟩ : ∃ m, k + j = m := ⟨_, rfl⟩
                      have c1 : (48 : Int) ≤ (s[k + j].toNat : Int) := by omega
                      have c2 : (s[k + j].toNat : Int) ≤ 57 := by omega
                      have c3 : (T : Int) ≤ 100000000 := by omega
                      have c4 : (Gd : Int) ≤ 100000000 := by omega
                      have c5 : (j : Int) < 9 := by omega
                      simp only [hm] at *
                      have HM := Lib.hid hm
                      clear hm
                      have c6 : (m : Int) < (s.size : Int) := by omega
                      go_wp2
                      go_roundg (gk - 1)
                      case measure => have := HJ.out; omega
                      case rel =>
                        refine ⟨j + 1, ?_, by go_num, by have := HJ.out; omega, by have := HM.out; omega, ?_, ?_, rfl⟩
                        · have := HM.out; go_num
                        · rw [E.out.1]; congr 1; omega
                        · rw [E.out.2]; congr 1; omega
                    · have hj1 : 1 ≤ j := by omega
                      have b3 : 10 ^ j ≤ 10 ^ 9 := Nat.pow_le_pow_right (by decide) (by omega)
                      have b4 : 10 ^ j ≤ 4294967295 := Nat.le_trans b3 (by decide)
                      have hTT := rtimes_any A zs c (10 ^ j) wr hsl hzd b4 (by omega)
                      have htk : dnum (s.data.toList.take (k + j)) = 10 ^ j * val W32 zs + dnum (bit s.data.toList k j) := by
                        rw [bit_take, dnum_append, b2, hz.out.2, Nat.mul_comm]
                      have hlp : dnum (s.data.toList.take (k + j)) < W32 ^ (k + j) := by
                        have h1 : dnum (s.data.toList.take (k + j)) < 10 ^ (s.data.toList.take (k + j)).length := dnum_lt (fun c hc => HALL.out c (List.mem_of_mem_take hc))
                        rw [List.length_take, Nat.min_eq_left (by omega)] at h1
                        exact Nat.lt_of_lt_of_le h1 (pow10_W32 _)
                      have HE := Lib.hid (And.intro htk hlp)
                      have hbw2 : wr.heap.size ≤ wr.heap.size := Nat.le_refl _
                      obtain ⟨T, hT⟩ : ∃ T, 10 ^ j = T := ⟨_, rfl⟩
                      obtain ⟨Gd, hGd⟩ : ∃ Gd, dnum (bit s.data.toList k j) = Gd := ⟨_, rfl⟩
                      rw [hT] at b1 b3 b4 hTT HE
                      rw [hGd] at b1 HE
                      have hG : Gd ≤ 4294967295 := by omega
                      rw [hT, hGd]
                      have HT := Lib.hid hTT
                      have HJ := Lib.hid (And.intro hjg hkg)
                      clear b1 b2 b3 hTT htk hlp hT hGd hz hlen9 hjg hkg hbw2
                      have hway : ¬ (j : Int) < 9 ∨ ((j : Int) < 9 ∧ ¬ (k : Int) + (j : Int) < (s.size : Int)) := by omega
                      clear hlt
                      rcases hway with hw1 | ⟨hw1, hw2⟩
                      all_goals
                        go_wp2_with fail
                        refine (HT.out).mono ?_
                        rintro e w2 ⟨v, rfl, B2, us, cu, rfl, hu1, hud, hun, huv, huc, hul, hb2⟩
                        have HU := Lib.hid (And.intro hun huv)
                        clear hun huv
                        go_wp2_with fail
                        have hrow : Row .u32 (w2.alloc (.cells #[.int .u32 (Gd : Nat)] 54)) w2.heap.size 54 [Gd] := heap_alloc_new _ _
                        have hba : Below w2.heap.size w2 (w2.alloc (.cells #[.int .u32 (Gd : Nat)] 54)) := by go_grown
                        generalize hW : w2.alloc (.cells #[.int .u32 (Gd : Nat)] 54) = W at *
                        clear hW
                        have hd1 : Dig W32 [Gd] := Dig.one (show Gd < 4294967296 by omega)
                        have hs1 := hrow.sl hrow.lt
                        have hTr : Calls Tryd.prog 75 #[.slice (some ⟨w2.heap.size, 0, none⟩) 1 1] W fun e w' => e = .returned (.slice (some ⟨w2.heap.size, 0, none⟩) (trimL [Gd]).length 1) ∧ W = w' :=
                          rtrim_any (some ⟨w2.heap.size, 0, none⟩) [Gd] 1 W hs1 (Nat.le_refl _) (by unfold maxLen; omega)
                        have htl := trimL_len [Gd]
                        simp only [List.length_cons, List.length_nil, Nat.zero_add] at htl
                        have hA := radd_any B2 (some ⟨w2.heap.size, 0, none⟩) us (trimL [Gd]) cu 1 (zs.length + 2) W ((hu1.below hba).more hba.size) (sl_trimL hs1) hud (dig_trimL hd1) (by omega) (by omega) (by omega)
                        have hv1 : val W32 (trimL [Gd]) = Gd := by rw [val_trimL]; simp [val]
                        rw [hv1] at hA
                        have HTr := Lib.hid hTr
                        have HA := Lib.hid hA
                        have hbW : Below wr.heap.size wr W := hb2.trans (hba.mono hb2.size)
                        clear hTr hA hv1 hs1 hrow hd1 hba
                        refine (HTr.out).mono ?_
                        rintro e w5 ⟨rfl, rfl⟩
                        go_wp2_with fail
                        refine (HA.out).mono ?_
                        rintro e w6 ⟨v6, rfl, A6, z6, k6, rfl, hy1, hyd, hyv, hyc, hym, hyl, hb6⟩
                        have HY := Lib.hid hyv
                        have HTr2 := Lib.hid (rtrim_any A6 z6 k6 w6 hy1 hyc hym)
                        have hbl6 := hbl.trans ((hbW.trans (hb6.mono hbW.size)).mono hbl.size)
                        clear hyv
                        go_wp2_with fail
                        refine (HTr2.out).mono ?_
                        rintro e w7 ⟨rfl, rfl⟩
                        go_wp2_with fail
                        go_roundg (s.size - (k + j))
                        case measure => have := HJ.out.2; omega
                        case rel =>
                          have hvv : val W32 (trimL z6) = dnum (s.data.toList.take (k + j)) := by rw [val_trimL, HY.out, HU.out.2, HE.out.1]
                          have hln := trimL_len z6
                          exact ⟨k + j, A6, trimL z6, k6, by first | rfl | go_num, by omega, rfl, sl_trimL hy1, dig_trimL hyd, Lib.hid ⟨norm_trimL _, hvv⟩, len_pow (B := W32) (by decide) (norm_trimL _) (by rw [hvv]; exact HE.out.2), by omega, hym, hbl6⟩
end Go.Proofs.YtiofglgpgjnonaaDoor
