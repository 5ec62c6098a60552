import PyProof.Rows.All
import Wide.All
import OpenK.AllK
import Wide.FinOn
import HandS.ForMost
import HandS.IsInst
import HandS.EndBits
import HandS.Wide
import HandS.WideBits
import HandS.TupAny
import HandS.Codes
import HandS.Defaults
import HandS.ForExc
import HandS.TryMany
import HandS.ExcIs
import HandS.TryElse
import HandS.DictComp
import HandS.Walk
import PySem.Challenge.RW_majordomo_k01_rows_that_hold_no_number
set_option Elab.async false
set_option linter.all false
set_option maxRecDepth 100000
set_option maxHeartbeats 4000000

namespace My
open PySem PySem.Spec PyProof.Rows L2
/-! own words: tests, heaps, items -/
theorem ifd {p A B : Prop} [Decidable p] (h1 : p → A) (h2 : ¬ p → B) : if decide p = true then A else B := by
  by_cases h : p
  · rw [decide_eq_true h]; exact (if_pos rfl).mpr (h1 h)
  · rw [decide_eq_false h]; exact (if_neg Bool.false_ne_true).mpr (h2 h)
theorem ifn {p A B : Prop} [Decidable p] (h1 : ¬ p → A) (h2 : p → B) : if (!decide p) = true then A else B := by
  by_cases h : p
  · rw [decide_eq_true h]; exact (if_neg Bool.false_ne_true).mpr (h2 h)
  · rw [decide_eq_false h]; exact (if_pos rfl).mpr (h1 h)
theorem ift {p A B : Prop} [Decidable p] (h : p) (h1 : A) : if decide p = true then A else B := by
  rw [decide_eq_true h]; exact (if_pos rfl).mpr h1
theorem iff0 {p A B : Prop} [Decidable p] (h : ¬ p) (h1 : B) : if decide p = true then A else B := by
  rw [decide_eq_false h]; exact (if_neg Bool.false_ne_true).mpr h1
theorem ifnt {p A B : Prop} [Decidable p] (h : p) (h1 : B) : if (!decide p) = true then A else B := by
  rw [decide_eq_true h]; exact (if_neg Bool.false_ne_true).mpr h1
theorem ifbt {b : Bool} {A B : Prop} (h : b = true) (h1 : A) : if b = true then A else B := (if_pos h).mpr h1
theorem ifbf {b : Bool} {A B : Prop} (h : b = false) (h1 : B) : if b = true then A else B := by rw [h]; exact h1
theorem ifb2 {b : Bool} {A B : Prop} (h1 : b = true → A) (h2 : b = false → B) : if b = true then A else B := by
  cases b with
  | true => exact h1 rfl
  | false => exact h2 rfl
theorem same_upd {H : Hp} {p : Addr} {o : HO} (h : H p = none) : Same H (upd H p o) := fun b x e => by
  rw [upd_ne (ne_of_none e h)]
  exact e
theorem same_put {H H' : Hp} {p : Addr} {o : HO} (e : Same H H') (h : H p = none) : Same H (upd H' p o) := fun b x q => by
  rw [upd_ne (ne_of_none q h)]
  exact e b x q
theorem sqt_same {K : PySem.W.Frag} {H H' : Hp} {a : Addr} {xs : List V} (e : Same H H') (h : SqT K H a xs) : SqT K H' a xs := by
  rcases h with (h | ⟨o, h⟩) | h
  · exact .inl (.inl (e _ _ h))
  · exact .inl (.inr ⟨o, e _ _ h⟩)
  · exact .inr h
theorem sql {K : PySem.W.Frag} {H : Hp} {a : Addr} {xs : List V} (h : H a = some (.lst xs)) : SqL K H a xs := .inl (.inl h)
theorem sqt {K : PySem.W.Frag} {H : Hp} {a : Addr} {xs : List V} (h : H a = some (.tup xs)) : SqT K H a xs := .inl (.inl h)
theorem sz {n : Nat} (h : n ≤ 100000) : n ≤ sizeLine := Nat.le_trans h (by decide)
theorem szl {n : Nat} (h : n ≤ 100000) : n < sizeLine := Nat.lt_of_le_of_lt h (by decide)
theorem map_at {α : Type} {f : α → V} {xs : List α} {i : Nat} {y : V} (h : (xs.map f)[i]? = some y) : ∃ x, xs[i]? = some x ∧ y = f x := by
  rw [List.getElem?_map] at h
  cases e : xs[i]? with
  | none => rw [e] at h; cases h
  | some x => rw [e] at h; exact ⟨x, rfl, (Option.some.inj h).symm⟩
theorem at_map {α : Type} {f : α → V} {xs : List α} {i : Nat} {x : α} (h : xs[i]? = some x) : atI (xs.map f) (i : Int) = some (f x) := atI_nat (by rw [List.getElem?_map, h]; rfl)
theorem take_more {α : Type} {l : List α} {i : Nat} {x : α} (h : l[i]? = some x) : l.take (i + 1) = l.take i ++ [x] := by
  rw [List.take_add_one, h]; rfl
/-! deep data stands as long as what was tracked stands -/
mutual
theorem dp_same {K : PySem.W.Frag} {H H' : Hp} (e : Same H H') : ∀ (d : PyData) {v : V}, Dp K H v d → Dp K H' v d
  | _, _, .non => .non
  | _, _, .bl b => .bl b
  | _, _, .int i => .int i
  | _, _, .str x => .str x
  | .list ds, _, .lst h a => .lst (e.seq h) (dpa_same e ds a)
  | .tuple ds, _, .tup h a => .tup (sqt_same e h) (dpa_same e ds a)
theorem dpa_same {K : PySem.W.Frag} {H H' : Hp} (e : Same H H') : ∀ (ds : List PyData) {vs : List V}, DpAll K H vs ds → DpAll K H' vs ds
  | [], _, .nil => .nil
  | d :: ds, _, .cons h a => .cons (dp_same e d h) (dpa_same e ds a)
end
theorem dpa_len {K : PySem.W.Frag} {H : Hp} : ∀ {vs : List V} {ds : List PyData}, DpAll K H vs ds → vs.length = ds.length
  | _, _, .nil => rfl
  | _, _, .cons _ a => by rw [List.length_cons, List.length_cons, dpa_len a]
theorem dpa_at {K : PySem.W.Frag} {H : Hp} : ∀ {vs : List V} {ds : List PyData} {i : Nat} {v : V}, DpAll K H vs ds → vs[i]? = some v → ∃ d, ds[i]? = some d ∧ Dp K H v d
  | _, _, _, _, .nil, h => by simp at h
  | _, _, 0, _, .cons h _, e => ⟨_, rfl, by have := Option.some.inj e; subst this; exact h⟩
  | _, _, i + 1, _, .cons _ a, e => dpa_at (i := i) a (by simpa using e)
theorem dpa_app {K : PySem.W.Frag} {H : Hp} : ∀ {vs ws : List V} {ds es : List PyData}, DpAll K H vs ds → DpAll K H ws es → DpAll K H (vs ++ ws) (ds ++ es)
  | _, _, _, _, .nil, b => b
  | _, _, _, _, .cons h a, b => .cons h (dpa_app a b)
theorem eqv_self {d : PyData} (h : SeqAt.shaped d = true) : PyData.eqv d d = true := SeqAt.eqv_refl d (SeqAt.canLay_of_shaped h)
/-! data that may be compared -/
theorem layAll : ∀ {ds : List PyData}, (∀ d ∈ ds, d.canLay0 = true) → PyData.canLayAll0 ds = true
  | [], _ => rfl
  | d :: ds, h => by
    rw [PyData.canLayAll0, h d List.mem_cons_self, layAll fun e he => h e (List.mem_cons_of_mem _ he)]; rfl
theorem depAll {n : Nat} : ∀ {ds : List PyData}, (∀ d ∈ ds, d.depth ≤ n) → PyData.depthAll ds ≤ n
  | [], _ => Nat.zero_le _
  | d :: ds, h => by
    have h1 := h d List.mem_cons_self
    have h2 := depAll (ds := ds) fun e he => h e (List.mem_cons_of_mem _ he)
    simp only [PyData.depthAll]
    omega
/-- plain data of at most this depth -/
def Flat (n : Nat) (d : PyData) : Prop := d.canLay0 = true ∧ d.depth ≤ n
theorem flat_list {n : Nat} {ds : List PyData} (h : ∀ d ∈ ds, Flat n d) : Flat (n + 1) (.list ds) :=
  ⟨by rw [PyData.canLay0]; exact layAll fun d hd => (h d hd).1, by have := depAll (n := n) fun d hd => (h d hd).2; simp only [PyData.depth]; omega⟩
theorem flat_tup {n : Nat} {ds : List PyData} (h : ∀ d ∈ ds, Flat n d) : Flat (n + 1) (.tuple ds) :=
  ⟨by rw [PyData.canLay0]; exact layAll fun d hd => (h d hd).1, by have := depAll (n := n) fun d hd => (h d hd).2; simp only [PyData.depth]; omega⟩
theorem flat_int (n : Nat) (i : Int) : Flat n (.int i) := ⟨rfl, by simp [PyData.depth]⟩
theorem flat_str (n : Nat) (x : Str) (h : (PyData.str x).canLay0 = true := by decide +kernel) : Flat n (.str x) := ⟨h, by simp [PyData.depth]⟩
theorem flat_bl (n : Nat) (b : Bool) : Flat n (.bool b) := ⟨rfl, by simp [PyData.depth]⟩
theorem flat_non (n : Nat) : Flat n .none := ⟨rfl, by simp [PyData.depth]⟩
theorem Flat.mono {n m : Nat} {d : PyData} (h : Flat n d) (hm : n ≤ m) : Flat m d := ⟨h.1, Nat.le_trans h.2 hm⟩
theorem Flat.sh {n : Nat} {d : PyData} (h : Flat n d) (hn : n ≤ 64) : SeqAt.shaped d = true := by
  show (d.canLay0 && decide (d.depth ≤ 64)) = true
  rw [Bool.and_eq_true]
  exact ⟨h.1, decide_eq_true (Nat.le_trans h.2 hn)⟩
theorem tyx_t {K : PySem.W.Frag} {H : Hp} {a : Addr} {xs : List V} (h : SqT K H a xs) : TyX K H (.ref a) (.type "tuple") := by
  rcases h with (h | ⟨o, h⟩) | ⟨o, its, n, h, hc, _⟩
  · exact .base (.tup h)
  · exact .fTuple h
  · exact .kTuple h hc
theorem tyx_l {K : PySem.W.Frag} {H : Hp} {a : Addr} {xs : List V} (h : SqL K H a xs) : TyX K H (.ref a) (.type "list") := by
  rcases h with (h | ⟨o, h⟩) | ⟨o, its, n, h, hc, _⟩
  · exact .base (.lst h)
  · exact .base (.frz h)
  · exact .kList h hc
theorem same_both {G H : Hp} {t : Addr} {x : HO} (e : Same G H) : Same (upd G t x) (upd H t x) := fun b o h => by
  by_cases hb : b = t
  · subst hb; rw [upd_same] at h ⊢; exact h
  · rw [upd_ne hb] at h ⊢; exact e b o h
theorem set_self {α : Type} : ∀ {l : List α} {i : Nat} {x : α}, l[i]? = some x → l.set i x = l
  | [], i, x, h => by simp at h
  | a :: l, 0, x, h => by
    have e : a = x := Option.some.inj h
    subst e
    rfl
  | a :: l, i + 1, x, h => by
    show a :: l.set i x = a :: l
    rw [set_self (by simpa using h)]
theorem ixn {n j : Nat} {i : Int} (hi : i = (j : Int)) (hj : j < n) : ixN n i = some j := by
  unfold ixN
  rw [if_pos (by omega), if_pos (by omega)]
  congr 1
  omega
/-! shifts and masks in place -/
section
variable {X : Cx}
theorem ip_shr : PIp X .RShift (fun x y H Q => ∃ (i : Int) (k : Nat), x = .int i ∧ y = .int (k : Int) ∧ Q (.int (i / 2 ^ k)) H) := by
  intro pins s σ H x y v u Q I r1 r2 h
  obtain ⟨i, k, e1, e2, q⟩ := h
  subst e1; subst e2
  obtain ⟨t, rfl⟩ := r1
  obtain ⟨t', rfl⟩ := r2
  refine irshift_int (Int.natCast_nonneg k) ⟨.int _, H, I.tok _, ⟨_, rfl⟩, ?_⟩
  rw [Int.toNat_natCast, Int.fdiv_eq_ediv_of_nonneg _ (Int.le_of_lt (Int.pow_pos (by decide)))]
  exact q
theorem ip_or : PIp X .BitOr (fun x y H Q => ∃ (r a : Int) (k : Nat), x = .int r ∧ y = .int (a * 2 ^ k) ∧ (0 ≤ a ∧ 0 ≤ r ∧ r < 2 ^ k) ∧ Q (.int (r + a * 2 ^ k)) H) := by
  intro pins s σ H x y v u Q I r1 r2 h
  obtain ⟨r, a, k, e1, e2, ⟨h0, h1, h2⟩, q⟩ := h
  subst e1; subst e2
  obtain ⟨t, rfl⟩ := r1
  obtain ⟨t', rfl⟩ := r2
  refine ior_int ⟨.int _, H, I.tok _, ⟨_, rfl⟩, ?_⟩
  have e : Builtin.bitOr r (a * 2 ^ k) = r + a * 2 ^ k := by
    have hp : (0 : Int) ≤ a * 2 ^ k := Int.mul_nonneg h0 (Int.le_of_lt (Int.pow_pos (by decide)))
    rw [bitOr_nn h1 hp, Nat.or_comm, ← bitOr_nn hp h1, or_low h0 h1 h2, Int.add_comm]
  rw [e]
  exact q
end
theorem bits_small : ∀ n : Nat, n < 128 → Builtin.Int.intBits (n : Int) ≤ 8 := by decide +kernel
/-- isinstance(e, c) of the error that a suite holds, its class known by the reading -/
theorem call_isE1 {X : Cx} {a D : Addr} {oe : Obj} {cls : Value} {d : Option Addr} {pn : List (Addr × Obj)} (C : ExcC X.K D) (hz : Zc cls d oe) (hf : ∃ vs, oe.data = .fields vs) :
    CallR (X.suite a ((a, oe) :: pn)) (.builtin "isinstance") (fun xs H Q => cls = .ref D ∧ d = none ∧ rIsE X.K D a xs H Q) := fun pins s σ H xs us Q I r h => by
  obtain ⟨h1, h2, h⟩ := h
  subst h1
  subst h2
  exact call_isE C hz hf pins s σ H xs us Q I r h
/-! slices -/
theorem sIx_le {n d : Nat} {i : Nat} : HT.sIx n d (some (i : Int)) = min i n := HT.sIx_nat n d i
theorem cut0n (xs : List V) (j : Nat) : cutV xs none (some (j : Int)) = xs.take j := by
  unfold cutV
  rw [sIx_le, HT.sIx_none, List.drop_zero, Nat.sub_zero]
  exact (List.take_eq_take_min).symm
theorem cutnn (xs : List V) (i j : Nat) : cutV xs (some (i : Int)) (some (j : Int)) = (xs.drop i).take (j - i) := by
  unfold cutV
  rw [sIx_le, sIx_le]
  by_cases hi : i ≤ xs.length
  · rw [Nat.min_eq_left hi]
    by_cases hj : j ≤ xs.length
    · rw [Nat.min_eq_left hj]
    · rw [Nat.min_eq_right (by omega), List.take_of_length_le (by rw [List.length_drop]; omega), List.take_of_length_le (by rw [List.length_drop]; omega)]
  · have e : min i xs.length = xs.length := by omega
    rw [e, List.drop_of_length_le (Nat.le_refl _), List.drop_of_length_le (show xs.length ≤ i by omega), List.take_nil, List.take_nil]
theorem cut_ints (ns : List Int) {i j : Nat} {a b : Int} (ha : a = i) (hb : b = j) : cutV (ns.map V.int) (some a) (some b) = ((ns.drop i).take (j - i)).map V.int := by
  rw [ha, hb, cutnn, ← List.map_drop, ← List.map_take]
theorem rep_ints (ns : List Int) (k : Nat) : (List.replicate k (ns.map V.int)).flatten = (List.replicate k ns).flatten.map V.int := by
  rw [List.map_flatten, List.map_replicate]
/-- [e for x in a slice], e changes nothing -/
theorem lc_cut {K : PySem.W.Frag} {wi : TI} {te : TE} {s : Nat} {σ : L2.St} {H : Hp} {Q : VK} (xs : List V) (f : V → V)
    (hwi : ∀ R : It → Hp → Prop, (∀ p, H p = none → R (Itl K p) (upd H p (.lst xs))) → wi σ H R) (hlen : xs.length ≤ 90000)
    (hw : ∀ x, wipe ((wipe σ [s]).set s (some x)) [s] = wipe σ [s])
    (he : ∀ (i : Nat) (x : V) (G : Hp) (Q' : VK), xs[i]? = some x → Same H G → Q' (f x) G → te ((wipe σ [s]).set s (some x)) G Q')
    (k : ∀ D H', H D = none → Same H H' → H' D = some (.lst (xs.map f)) → Q (.ref D) H') : tLc wi (gName s) tYes te [s] σ H Q := by
  refine hwi _ fun p hp D hD => ?_
  have nD : D ≠ p := fun z => by rw [z, upd_same] at hD; cases hD
  have hD0 : H D = none := by rw [upd_ne nD] at hD; exact hD
  refine lc_list (K := K) (a := p) (xs := xs) (fun i H' => Same H H' ∧ H' p = some (.lst xs) ∧ H' D = some (.lst ((xs.take i).map f)))
    ⟨(same_upd hp).trans (same_upd hD), by rw [upd_ne nD.symm, upd_same], by rw [upd_same]; rfl⟩ (fun i H' _ h => sql h.2.1) (fun i x G hx hG => ?_) (fun G hG => ?_)
  · refine ⟨hw x, ?_⟩
    refine he i x G _ hx hG.1 ⟨_, hG.2.2, szl (by rw [List.length_map, List.length_take]; omega), same_put hG.1 hD0, by rw [upd_ne nD.symm]; exact hG.2.1, ?_⟩
    rw [upd_same, take_more hx, List.map_append]
    rfl
  · refine k D G hD0 hG.1 ?_
    rw [List.take_length] at hG
    exact hG.2.2
/-- lists of ints as data -/
theorem dpa_ints {K : PySem.W.Frag} {H : Hp} : ∀ ns : List Int, DpAll K H (ns.map V.int) (ns.map PyData.int)
  | [] => .nil
  | n :: ns => .cons (.int n) (dpa_ints ns)
theorem dp_ints {K : PySem.W.Frag} {H : Hp} {a : Addr} {ns : List Int} (h : SqL K H a (ns.map V.int)) : Dp K H (.ref a) (.list (ns.map PyData.int)) := .lst h (dpa_ints ns)
theorem flat_ints (ns : List Int) : Flat 1 (.list (ns.map PyData.int)) := flat_list (n := 0) fun d hd => by
  obtain ⟨i, _, rfl⟩ := List.mem_map.mp hd
  exact flat_int _ _
theorem flat_tints (ns : List Int) : Flat 1 (.tuple (ns.map PyData.int)) := flat_tup (n := 0) fun d hd => by
  obtain ⟨i, _, rfl⟩ := List.mem_map.mp hd
  exact flat_int _ _
theorem eqvAll_ints : ∀ xs ys : List Int, PyData.eqvAll (xs.map .int) (ys.map .int) = decide (xs = ys)
  | [], [] => rfl
  | [], _ :: _ => rfl
  | _ :: _, [] => rfl
  | x :: xs, y :: ys => by
    show ((x == y) && PyData.eqvAll (xs.map .int) (ys.map .int)) = _
    rw [eqvAll_ints xs ys, Bool.eq_iff_iff]
    simp
theorem eqv_ints (xs ys : List Int) : PyData.eqv (.list (xs.map .int)) (.list (ys.map .int)) = decide (xs = ys) := eqvAll_ints xs ys
theorem eqv_tints (xs ys : List Int) : PyData.eqv (.tuple (xs.map .int)) (.tuple (ys.map .int)) = decide (xs = ys) := eqvAll_ints xs ys
/-- a def with defaults that lets nothing out -/
theorem okD {P : Program} {w : World} {K : PySem.W.Frag} {mg : Str → Option Value} {base : Heap} {x qual : Str} {params : Arguments} {body : List Stmt} {scope : Scope} {dvs : List V} {kws : List (Str × V)} {f : Addr} {fd : FuncData} {N ps : List Str} {k : Nat} {sp : Sp}
    (F : FunD K x qual params body scope dvs kws f fd) (S : FnScope N ps scope) (len : ∀ vs H Q E, sp vs H Q E → vs.length = ps.length)
    (hb : ∀ (cdv : Value) (A : Around) (outer : List Env) (s : Shared) (H : Hp) (vs : List V) (Q : VK) (E : XK), Room k (A.deeper (envOfC qual scope s.heap.objs.size f cdv)) → sp vs H Q E →
      ∃ t, PSs (cxOf CX0 P w K mg base N qual scope f cdv A outer s H E).nox body t ∧ t { nx := fun _ H' => Q .non H', rt := Q } (start N vs) H) : FnOk P w K mg base CX0 (k + 1) f fd ps sp :=
  F.ok S len fun cdv A outer s H vs Q E hr h => by
    obtain ⟨t, h1, q⟩ := hb cdv A outer s H vs Q E hr h
    exact ⟨t, h1.nox, q⟩
/-! what an expression gives, whatever stands besides -/
def EI (te : TE) (σ : L2.St) (H : Hp) (v : V) : Prop := ∀ G, Same H G → ∀ Q : VK, Q v G → te σ G Q
def EA (ta : TA) (σ : L2.St) (H : Hp) (vs : List V) : Prop := ∀ G, Same H G → ∀ Q : List V → Hp → Prop, Q vs G → ta σ G Q
/-- a list, new or old -/
def EL (te : TE) (σ : L2.St) (H : Hp) (xs : List V) : Prop := ∀ G, Same H G → ∀ Q : VK, (∀ p G', Same G G' → G' p = some (.lst xs) → Q (.ref p) G') → te σ G Q
section
variable {K : PySem.W.Frag} {σ : L2.St} {H : Hp} {ta tb te : TE} {x y z v : V} {xs ys : List V}
theorem ei_var {i : Nat} (h : σ[i]? = some (some v)) : EI (tVar i) σ H v := fun _ _ _ q => ⟨v, h, q⟩
theorem ei_c : EI (tC v) σ H v := fun _ _ _ q => q
theorem ei_op {r : R2} (ha : EI ta σ H x) (hb : EI tb σ H y) (hr : ∀ G, Same H G → ∀ Q : VK, Q z G → r x y G Q) : EI (tOp r ta tb) σ H z := fun G s Q q => ha G s _ (hb G s _ (hr G s Q q))
theorem ei_i0 {g : Int → Int → V} {i j : Int} (ha : EI ta σ H (.int i)) (hb : EI tb σ H (.int j)) : EI (tOp (rI0 g) ta tb) σ H (g i j) := ei_op ha hb fun _ _ _ q => ⟨i, j, rfl, rfl, q⟩
theorem ei_ic {C : Int → Int → Prop} {g : Int → Int → V} {i j : Int} (ha : EI ta σ H (.int i)) (hb : EI tb σ H (.int j)) (hc : C i j) : EI (tOp (rI C g) ta tb) σ H (g i j) := ei_op ha hb fun _ _ _ q => ⟨i, j, rfl, rfl, hc, q⟩
theorem ea_nil : EA tNil σ H [] := fun _ _ _ q => q
theorem ea_cons {tr : TA} {vs : List V} (h : EI ta σ H x) (g : EA tr σ H vs) : EA (tCons ta tr) σ H (x :: vs) := fun G s _ q => h G s _ (g G s _ q)
theorem ei_cb {r : List V → Hp → VK → Prop} {tr : TA} {vs : List V} (ha : EA tr σ H vs) (hr : ∀ G, Same H G → ∀ Q : VK, Q z G → r vs G Q) : EI (tCB r tr) σ H z := fun G s Q q => ha G s _ (hr G s Q q)
/-- len of a list, list(..) of a list or a tuple, as they are read -/
def rLen (K : PySem.W.Frag) : List V → Hp → VK → Prop := fun xs H Q => ∃ p ys, xs = [.ref p] ∧ (SqL K H p ys ∨ SqT K H p ys) ∧ Q (.int ys.length) H
def rLst (K : PySem.W.Frag) : List V → Hp → VK → Prop := fun xs H Q => ∃ p ys, xs = [.ref p] ∧ (SqL K H p ys ∨ SqT K H p ys) ∧ ∀ l, H l = none → Q (.ref l) (upd H l (.lst ys))
def rTup (K : PySem.W.Frag) : List V → Hp → VK → Prop := fun xs H Q => ∃ p ys, xs = [.ref p] ∧ ((SqL K H p ys ∧ ∀ l, H l = none → Q (.ref l) (upd H l (.tup ys))) ∨ (SqT K H p ys ∧ Q (.ref p) H))
theorem callK_tuple {X : Cx} (h : X.K = K) : CallR X (.type "tuple") (rTup K) := by subst h; exact call_tuple_of
theorem callK_list {X : Cx} (h : X.K = K) : CallR X (.type "list") (rLst K) := by subst h; exact call_list_of
theorem opK_catA {X : Cx} (h : X.K = K) : OpR X (binaryOp .Add) (rCatA K) := by subst h; exact op_catA
theorem ixK_list {X : Cx} (h : X.K = K) : IxR X (rIxL K) := by subst h; exact ix_list
theorem ixK_tup {X : Cx} (h : X.K = K) : IxR X (rIxT K) := by subst h; exact ix_tup
theorem pe_fldK {X : Cx} {e : Expr} {f : Str} {pos : Pos} {ta : TE} (h : X.K = K) (he : PE X e ta) (hb : attributeBase e f X.env (eval e X.env) = eval e X.env) : PE X (.Attribute e f pos) (tFld K ta f) := by subst h; exact pe_fld he hb
theorem callK_len {X : Cx} (h : X.K = K) : CallR X (.builtin "len") (rLen K) := by subst h; exact call_len_seq
theorem ei_lenL {i : Nat} {p : Addr} (h : σ[i]? = some (some (.ref p))) (e : SqL K H p xs) : EI (tCB (rLen K) (tCons (tVar i) tNil)) σ H (.int (xs.length : Int)) := ei_cb (ea_cons (ei_var h) ea_nil) fun _ s _ q => ⟨p, xs, rfl, .inl (s.seq e), q⟩
theorem ei_lenT {i : Nat} {p : Addr} (h : σ[i]? = some (some (.ref p))) (e : SqT K H p xs) : EI (tCB (rLen K) (tCons (tVar i) tNil)) σ H (.int (xs.length : Int)) := ei_cb (ea_cons (ei_var h) ea_nil) fun _ s _ q => ⟨p, xs, rfl, .inr (sqt_same s e), q⟩
theorem ei_fld {i : Nat} {p C dx : Addr} {fs : List (Str × V)} {f : Str} (h : σ[i]? = some (some (.ref p))) (hp : H p = some (.ins C dx fs)) (c : Cls K C) (n : NoAttr K C f) (l : fs.lookup f = some v) : EI (tFld K (tVar i) f) σ H v := fun _ s _ q => ⟨.ref p, h, p, C, dx, fs, v, rfl, s _ _ hp, c, n, l, q⟩
theorem ei_din {td : TE} {d : Addr} {kvs : List (Key × V)} {k : Key} (hy : EI te σ H (kV k)) (hd : EI td σ H (.ref d)) (e : H d = some (.dK kvs)) : EI (tDIn te td) σ H (.bl (valV kvs k).isSome) := fun G s _ q => hy G s _ (hd G s _ ⟨d, _, rfl, DGet.k (s _ _ e), q⟩)
theorem ei_dnotin {td : TE} {d : Addr} {kvs : List (Key × V)} {k : Key} (hy : EI te σ H (kV k)) (hd : EI td σ H (.ref d)) (e : H d = some (.dK kvs)) : EI (tDNotIn te td) σ H (.bl (!(valV kvs k).isSome)) := fun G s _ q => hy G s _ (hd G s _ ⟨d, _, rfl, DGet.k (s _ _ e), q⟩)
theorem ei_dget {td : TE} {d : Addr} {kvs : List (Key × V)} {k : Key} (hy : EI te σ H (kV k)) (hd : EI td σ H (.ref d)) (e : H d = some (.dK kvs)) (hv : valV kvs k = some v) : EI (tDGet td te) σ H v := fun G s _ q => hd G s _ (hy G s _ ⟨d, v, rfl, by rw [← hv]; exact DGet.k (s _ _ e), q⟩)
theorem ei_ixL {p : Addr} {j : Int} (ha : EI ta σ H (.ref p)) (hi : EI tb σ H (.int j)) (e : SqL K H p xs) (h : atI xs j = some v) : EI (tOp (rIxL K) ta tb) σ H v := ei_op ha hi fun _ s _ q => ⟨p, xs, j, v, rfl, rfl, s.seq e, h, q⟩
theorem ei_ixT {p : Addr} {j : Int} (ha : EI ta σ H (.ref p)) (hi : EI tb σ H (.int j)) (e : SqT K H p xs) (h : atI xs j = some v) : EI (tOp (rIxT K) ta tb) σ H v := ei_op ha hi fun _ s _ q => ⟨p, xs, j, v, rfl, rfl, sqt_same s e, h, q⟩
theorem ei_eq (ha : EI ta σ H x) (hb : EI tb σ H y) (h : scal x y = true) : EI (tOp rEq ta tb) σ H (.bl (decide (x = y))) := ei_op ha hb fun _ _ _ q => ⟨h, q⟩
theorem ei_ne (ha : EI ta σ H x) (hb : EI tb σ H y) (h : scal x y = true) : EI (tOp rNe ta tb) σ H (.bl (!decide (x = y))) := ei_op ha hb fun _ _ _ q => ⟨h, q⟩
/-- a test by its value -/
theorem tt_use {b : Bool} {Q : Bool → Hp → Prop} (h : EI te σ H (.bl b)) (k : Q b H) : tTest te σ H Q := h H (Same.refl _) _ ⟨b, rfl, k⟩
theorem tb_use {b : Bool} {Q : Bool → Hp → Prop} (h : EI te σ H (.bl b)) (k : Q b H) : tB te σ H Q := h H (Same.refl _) _ ⟨b, rfl, k⟩
theorem el_var {i : Nat} {p : Addr} (h : σ[i]? = some (some (.ref p))) (e : H p = some (.lst xs)) : EL (tVar i) σ H xs := fun G s _ q => ⟨.ref p, h, q p G (Same.refl _) (s _ _ e)⟩
/-- a new list -/
def EN (te : TE) (σ : L2.St) (H : Hp) (xs : List V) : Prop := ∀ G, Same H G → ∀ Q : VK, (∀ p G', G p = none → Same G G' → G' p = some (.lst xs) → Q (.ref p) G') → te σ G Q
theorem EN.el (h : EN te σ H xs) : EL te σ H xs := fun G s Q q => h G s Q fun p G' _ => q p G'
theorem en_lst {tr : TA} {vs : List V} (ha : EA tr σ H vs) (hl : vs.length ≤ 90000) : EN (tLst tr) σ H vs := fun G s _ q => ha G s _ ⟨sz (by omega), fun p hp => q p _ hp (same_upd hp) upd_same⟩
theorem en_cat (ha : EL ta σ H xs) (hb : EL tb σ H ys) (hl : xs.length + ys.length ≤ 90000) : EN (tOp rCat ta tb) σ H (xs ++ ys) := fun G s _ q =>
  ha G s _ fun p G1 s1 e1 => hb G1 (s.trans s1) _ fun p2 G2 s2 e2 => ⟨p, p2, xs, ys, rfl, rfl, s2 _ _ e1, e2, sz (by omega), fun p3 h3 => q p3 _ ((s1.trans s2).free h3) ((s1.trans s2).trans (same_upd h3)) upd_same⟩
theorem en_rep {k : Int} (ha : EL ta σ H xs) (hb : EI tb σ H (.int k)) (h1 : -1000000 ≤ k) (h2 : k ≤ 1000000) (hl : xs.length * k.toNat ≤ 90000) : EN (tOp rRep ta tb) σ H (List.replicate k.toNat xs).flatten := fun G s _ q =>
  ha G s _ fun p G1 s1 e1 => hb G1 (s.trans s1) _ ⟨p, k, xs, rfl, rfl, e1, by omega, by omega, sz (by omega), fun p3 h3 => q p3 _ (s1.free h3) (s1.trans (same_upd h3)) upd_same⟩
theorem el_lst {tr : TA} {vs : List V} (ha : EA tr σ H vs) (hl : vs.length ≤ 90000) : EL (tLst tr) σ H vs := (en_lst ha hl).el
theorem el_cat (ha : EL ta σ H xs) (hb : EL tb σ H ys) (hl : xs.length + ys.length ≤ 90000) : EL (tOp rCat ta tb) σ H (xs ++ ys) := (en_cat ha hb hl).el
theorem el_rep {k : Int} (ha : EL ta σ H xs) (hb : EI tb σ H (.int k)) (h1 : -1000000 ≤ k) (h2 : k ≤ 1000000) (hl : xs.length * k.toNat ≤ 90000) : EL (tOp rRep ta tb) σ H (List.replicate k.toNat xs).flatten := (en_rep ha hb h1 h2 hl).el
theorem el_cb {r : List V → Hp → VK → Prop} {tr : TA} {vs : List V} (ha : EA tr σ H vs) (hr : ∀ G, Same H G → ∀ Q : VK, (∀ p G', Same G G' → G' p = some (.lst xs) → Q (.ref p) G') → r vs G Q) : EL (tCB r tr) σ H xs := fun G s Q q => ha G s _ (hr G s Q q)
theorem el_call {sp : Sp} {dvs : List V} {E : XK} {tr : TA} {vs : List V} (ha : EA tr σ H vs) (hr : ∀ G, Same H G → ∀ Q : VK, (∀ p G', Same G G' → G' p = some (.lst xs) → Q (.ref p) G') → sp (vs ++ dvs) G Q E) : EL (tCall sp dvs E tr) σ H xs := fun G s Q q => ha G s _ (hr G s Q q)
theorem el_listL {i : Nat} {p : Addr} (h : σ[i]? = some (some (.ref p))) (e : SqL K H p xs) : EL (tCB (rLst K) (tCons (tVar i) tNil)) σ H xs := el_cb (ea_cons (ei_var h) ea_nil) fun _ s _ q => ⟨p, xs, rfl, .inl (s.seq e), fun l hl => q l _ (same_upd hl) upd_same⟩
theorem el_listT {i : Nat} {p : Addr} (h : σ[i]? = some (some (.ref p))) (e : SqT K H p xs) : EL (tCB (rLst K) (tCons (tVar i) tNil)) σ H xs := el_cb (ea_cons (ei_var h) ea_nil) fun _ s _ q => ⟨p, xs, rfl, .inr (sqt_same s e), fun l hl => q l _ (same_upd hl) upd_same⟩
/-- x = an expression that gives a list -/
theorem EL.use {Q : VK} (h : EL te σ H xs) (k : ∀ p H', Same H H' → H' p = some (.lst xs) → Q (.ref p) H') : te σ H Q := h H (Same.refl _) Q k
theorem EN.use {Q : VK} (h : EN te σ H xs) (k : ∀ p H', H p = none → Same H H' → H' p = some (.lst xs) → Q (.ref p) H') : te σ H Q := h H (Same.refl _) Q k
theorem EI.use {Q : VK} (h : EI te σ H v) (k : Q v H) : te σ H Q := h H (Same.refl _) Q k
end
/-- defaults: what is bound where keywords give the rest -/
theorem kb_one {K : PySem.W.Frag} {x qual : Str} {params : Arguments} {body : List Stmt} {scope : Scope} {dvs : List V} {f : Addr} {fd : FuncData} {ps : List Str} (F : FunD K x qual params body scope dvs [] f fd) (n : Nat) (ks : List Str) (hd : dvs ≠ [])
    (h : ∀ (T : Addr) (kV doc pm : Value) (an : Option Addr) (cdv ct : Value) (us ws its : List Value), us.length = n → ws.length = ks.length → its.length = dvs.length →
      ∃ k, bindArgs (PySem.W.fnOf x qual params body scope (.ref T) kV doc pm an cdv ct) ⟨us, ks.zip ws⟩ = seqItems? (.ref T) >>= k ∧ k (some its.toArray) = pure (ps.zip (us ++ ws))) :
    KBn K fd ps n ks (fun us ws => us ++ ws) (fun vs zs => vs ++ zs) := by
  obtain ⟨oc, od, dV, kV, doc, pm, an, cdv, ct, osl, rfl, lk, hcd, hD, hK⟩ := F.ex
  rcases hD with ⟨e, _⟩ | ⟨_, T, o, its, m, rfl, lT, oT, rT⟩
  · exact absurd e hd
  · refine ⟨fun s us ws X h1 h2 => BindsTo.of_looks fun M => ?_, fun r1 r2 => r1.append r2⟩
    obtain ⟨k, e1, e2⟩ := h T kV doc pm an cdv ct us ws its h1 h2 rT.length.symm
    rw [e1]
    exact looks_items X lT oT (.of_pure e2)
theorem andV_use {ta tb : TE} {σ : L2.St} {H : Hp} {Q : VK} {x y : Bool} (h1 : EI ta σ H (.bl x)) (h2 : x = true → ∀ Q' : VK, (∀ H', Same H H' → Q' (.bl y) H') → tb σ H Q') (k : ∀ H', Same H H' → Q (.bl (x && y)) H') : tAndV ta tb σ H Q := by
  refine h1 H (Same.refl _) _ ⟨x, rfl, ?_⟩
  cases x with
  | true => exact (if_pos rfl).mpr (h2 rfl _ k)
  | false => exact (if_neg Bool.false_ne_true).mpr (k H (Same.refl _))
/-- what is locked and let go stands as it stood -/
theorem unlock {H H' : Hp} {d : Addr} {od : Obj} {u : HO} (e : H d = some u) (s : Same (upd H d (.frz od u)) H') : Same H (upd H' d u) := fun b o h => by
  by_cases hb : b = d
  · subst hb
    rw [upd_same, ← e]
    exact h
  · rw [upd_ne hb]
    exact s b o (by rw [upd_ne hb]; exact h)
theorem take_filter {α : Type} {l : List α} {i : Nat} {x : α} (f : α → Bool) (h : l[i]? = some x) : (l.take (i + 1)).filter f = (l.take i).filter f ++ if f x then [x] else [] := by
  rw [take_more h, List.filter_append]
  cases e : f x <;> simp [e]
/-- [e for k in d if t] over the keys of a dict, t and e change nothing -/
theorem lc_keys {td te : TE} {tt : TT} {s : Nat} {σ : L2.St} {H : Hp} {Q : VK} (d : Addr) (kvs : List (Key × V)) (f : Key → Bool) (g : Key → V) (e : H d = some (.dK kvs)) (hlen : kvs.length ≤ 90000)
    (htd : ∀ od, EI td σ (upd H d (.frz od (.dK kvs))) (.ref d))
    (hw : ∀ x, wipe ((wipe σ [s]).set s (some x)) [s] = wipe σ [s])
    (ht : ∀ (od : Obj) (i : Nat) (k : Key) (v : V) (G : Hp) (Q' : Bool → Hp → Prop), kvs[i]? = some (k, v) → Same (upd H d (.frz od (.dK kvs))) G → Q' (f k) G → tt ((wipe σ [s]).set s (some (kV k))) G Q')
    (he : ∀ (od : Obj) (i : Nat) (k : Key) (v : V) (G : Hp) (Q' : VK), kvs[i]? = some (k, v) → Same (upd H d (.frz od (.dK kvs))) G → Q' (g k) G → te ((wipe σ [s]).set s (some (kV k))) G Q')
    (k : ∀ D H', H D = none → Same H H' → H' D = some (.lst ((kvs.filter fun kv => f kv.1).map fun kv => g kv.1)) → Q (.ref D) H') : tLockE (tLc (iKeys td) (gName s) tt te [s]) σ H Q := by
  refine ⟨d, _, e, trivial, fun od => htd od _ (Same.refl _) _ ⟨d, od, rfl, .inl ⟨kvs, upd_same, fun D hD => ?_⟩⟩⟩
  have nD : D ≠ d := fun z => by rw [z, upd_same] at hD; cases hD
  have hD0 : H D = none := by rw [upd_ne nD] at hD; exact hD
  refine lc_it walk_keys (fun i G => Same (upd H d (.frz od (.dK kvs))) G ∧ G D = some (.lst (((kvs.take i).filter fun kv => f kv.1).map fun kv => g kv.1)))
    ⟨same_upd hD, upd_same⟩ (fun i G _ h => h.1 _ _ upd_same) (fun i x G G' hi hG hy => ?_) (fun G hG => ?_)
  · obtain ⟨rfl, key, v, hkv, rfl⟩ := hy
    have hfl : ((kvs.take i).filter fun kv => f kv.1).length ≤ 90000 := Nat.le_trans (List.length_filter_le _ _) (by rw [List.length_take]; omega)
    refine ⟨hw _, ht od i key v _ _ hkv hG.1 ?_⟩
    have hts := take_filter (fun kv : Key × V => f kv.1) hkv
    cases hf : f key with
    | true =>
      refine (if_pos rfl).mpr (he od i key v _ _ hkv hG.1 ⟨_, hG.2, szl (by rw [List.length_map]; omega), same_put hG.1 hD, ?_⟩)
      rw [upd_same, hts, List.map_append]
      simp only [hf, if_true]
      rfl
    | false =>
      refine (if_neg Bool.false_ne_true).mpr ⟨hG.1, ?_⟩
      rw [hts]
      simp only [hf, Bool.false_eq_true, if_false, List.append_nil]
      exact hG.2
  · rw [List.take_length] at hG
    refine ⟨hG.1 _ _ upd_same, k D _ hD0 (unlock e hG.1) ?_⟩
    rw [upd_ne nD]
    exact hG.2
theorem put_fresh {kvs : List (Key × V)} {k : Key} {v : V} (h : ∀ kv ∈ kvs, kv.1 ≠ k) : putK kvs k v = kvs ++ [(k, v)] := by
  unfold putK
  rw [if_neg]
  intro z
  obtain ⟨kv, hm, hk⟩ := List.any_eq_true.mp z
  exact h kv hm (of_decide_eq_true hk)
theorem nd_ne {α β : Type} {l : List (α × β)} {i : Nat} {x : α × β} (nd : (l.map (·.1)).Nodup) (h : l[i]? = some x) : ∀ y ∈ l.take i, y.1 ≠ x.1 := fun y hy z => by
  obtain ⟨j, hj, rfl⟩ := List.getElem_of_mem hy
  rw [List.length_take] at hj
  rw [List.getElem_take] at z
  obtain ⟨hi, rfl⟩ := List.getElem?_eq_some_iff.mp h
  have e1 : (l.map (·.1))[j]? = some l[i].1 := by rw [List.getElem?_map, List.getElem?_eq_getElem (by omega), ← z]; rfl
  have e2 : (l.map (·.1))[i]? = some l[i].1 := by rw [List.getElem?_map, List.getElem?_eq_getElem hi]; rfl
  have := nd_ix nd e1 e2
  omega
/-- {k: e for k in d if t} over the keys of a dict -/
theorem dc_keys {td tv : TE} {tt : TT} {s : Nat} {σ : L2.St} {H : Hp} {Q : VK} (d : Addr) (kvs : List (Key × V)) (f : Key → Bool) (g : Key × V → V) (e : H d = some (.dK kvs)) (hlen : kvs.length ≤ 90000) (nd : (kvs.map (·.1)).Nodup)
    (htd : ∀ od, EI td σ (upd H d (.frz od (.dK kvs))) (.ref d))
    (hw : ∀ x, wipe ((wipe σ [s]).set s (some x)) [s] = wipe σ [s])
    (ht : ∀ (od : Obj) (i : Nat) (k : Key) (v : V) (G : Hp) (Q' : Bool → Hp → Prop), kvs[i]? = some (k, v) → Same (upd H d (.frz od (.dK kvs))) G → Q' (f k) G → tt ((wipe σ [s]).set s (some (kV k))) G Q')
    (he : ∀ (od : Obj) (i : Nat) (k : Key) (v : V) (G : Hp) (Q' : VK), kvs[i]? = some (k, v) → f k = true → Same (upd H d (.frz od (.dK kvs))) G → Q' (g (k, v)) G → tv ((wipe σ [s]).set s (some (kV k))) G Q')
    (hn : ∀ i, (wipe σ [s]).length = i → s < i)
    (k : ∀ D H', H D = none → Same H H' → H' D = some (.dK ((kvs.filter fun kv => f kv.1).map fun kv => (kv.1, g kv))) → Q (.ref D) H') : tLockE (tDc (iKeys td) (gName s) tt (tVar s) tv [s]) σ H Q := by
  have hs : s < (wipe σ [s]).length := hn _ rfl
  refine ⟨d, _, e, trivial, fun od => htd od _ (Same.refl _) _ ⟨d, od, rfl, .inl ⟨kvs, upd_same, fun D hD => ?_⟩⟩⟩
  have nD : D ≠ d := fun z => by rw [z, upd_same] at hD; cases hD
  have hD0 : H D = none := by rw [upd_ne nD] at hD; exact hD
  let Pv : Nat → Hp → Prop := fun i G => Same (upd H d (.frz od (.dK kvs))) G ∧ G D = some (.dK (((kvs.take i).filter fun kv => f kv.1).map fun kv => (kv.1, g kv)))
  have step : ∀ i x G G', i < kvs.length → Pv i G → (G' = G ∧ ∃ k v, kvs[i]? = some (k, v) ∧ x = kV k) → gName s x (wipe σ [s]) G' fun σ2 H2 => wipe σ2 [s] = wipe σ [s] ∧ tt σ2 H2 fun b H3 =>
      if b = true then tVar s σ2 H3 fun y H4 => tv σ2 H4 fun z H5 => ∃ kvs' k', y = kV k' ∧ H5 D = some (.dK kvs') ∧ kvs'.length < sizeLine ∧ Pv (i + 1) (upd H5 D (.dK (putK kvs' k' z))) else Pv (i + 1) H3 := fun i x G G' hi hG hy => by
    obtain ⟨rfl, key, v, hkv, rfl⟩ := hy
    have hfl : ((kvs.take i).filter fun kv => f kv.1).length ≤ 90000 := Nat.le_trans (List.length_filter_le _ _) (by rw [List.length_take]; omega)
    refine ⟨hw _, ht od i key v _ _ hkv hG.1 ?_⟩
    have hts := take_filter (fun kv : Key × V => f kv.1) hkv
    cases hf : f key with
    | true =>
      refine (if_pos rfl).mpr ⟨kV key, by rw [List.getElem?_set_self hs], he od i key v _ _ hkv hf hG.1 ⟨_, key, rfl, hG.2, szl (by rw [List.length_map]; omega), same_put hG.1 hD, ?_⟩⟩
      rw [upd_same, hts, List.map_append, put_fresh]
      · simp only [hf, if_true]
        rfl
      · intro kv hm
        obtain ⟨y, hy, rfl⟩ := List.mem_map.mp hm
        exact nd_ne nd hkv y (List.mem_filter.mp hy).1
    | false =>
      refine (if_neg Bool.false_ne_true).mpr ⟨hG.1, ?_⟩
      rw [hts]
      simp only [hf, Bool.false_eq_true, if_false, List.append_nil]
      exact hG.2
  refine ⟨fun i m G => m = kvs.length - i ∧ i ≤ kvs.length ∧ Pv i G, ⟨kvs.length, by simp, Nat.zero_le _, same_upd hD, upd_same⟩, ?_⟩
  rintro i m G ⟨rfl, hi, hP⟩
  by_cases hlt : i < kvs.length
  · exact .inr ⟨⟨hP.1 _ _ upd_same, hlt⟩, Pv (i + 1), fun G' p' => ⟨kvs.length - (i + 1), by omega, rfl, hlt, p'⟩, fun x G' y => step i x G G' hlt hP y⟩
  · have ei : i = kvs.length := by omega
    subst ei
    obtain ⟨h1, h2⟩ := hP
    rw [List.take_length] at h2
    refine .inl ⟨⟨h1 _ _ upd_same, Nat.le_refl _⟩, h1 _ _ upd_same, k D _ hD0 (unlock e h1) ?_⟩
    rw [upd_ne nD]
    exact h2
/-! the same within a comprehension -/
section
variable {K : PySem.W.Frag} {X : Cx} {pos : Pos}
theorem pgK_tup {es : List Expr} {k : Nat} {t : TGs} {n : Nat} (hK : X.K = K) (hc : X.calm = true) (h : PGs X es t)
    (hn : (assignEach es X.env).length = n := by rfl) (hst : (assignEach es X.env).findIdx? (·.1) = none := by rfl) : PG X (.Tuple es k pos) (gTup K n t) := by subst hK; exact pg_tup hc h hn hst
theorem opK_in (h : X.K = K) : OpR X (compareOp .In) (rIn K false) := by subst h; exact op_in_seq
theorem opK_notIn (h : X.K = K) : OpR X (compareOp .NotIn) (rIn K true) := by subst h; exact op_notIn_seq
theorem opK_eqD (h : X.K = K) (hu : X.A.units + 64 < cLine) : OpR X (compareOp .Eq) (rEqD K) := by subst h; exact op_eqD hu
theorem opK_neD (h : X.K = K) (hu : X.A.units + 64 < cLine) : OpR X (compareOp .NotEq) (rNeD K) := by subst h; exact op_neD hu
theorem callK_isi (h : X.K = K) : CallR X (.builtin "isinstance") (rIsi K) := by subst h; exact call_isi
theorem slK_tup (h : X.K = K) : SlR X (rSlT K) := by subst h; exact sl_tup
end
end My
local macro_rules | `(tactic| walk_at "go") => `(tactic| try dsimp only [L2.gName, L2.tSeq, L2.tAsg, L2.tNext, L2.tDrop])
namespace My
open PySem PySem.Spec PyProof.Rows L2
def topS (i : Nat) : Stmt := PySem.Challenge.pw_majordomo_k01_rows_that_hold_no_number.main.body.getD i (.Pass ⟨0, 0, 0, 0⟩)
abbrev s_take_number : Stmt := (topS 10)
theorem sc_take_number : FnScope ["row", "index", "number", "shift", "at", "byte"] ["row", "index"] (defScope s_take_number) := ⟨rfl, rfl, rfl, by decide +kernel, rfl, by decide +kernel, by decide +kernel⟩
abbrev s__law_is_integer : Stmt := (topS 12)
theorem sc__law_is_integer : FnScope ["actual"] ["actual"] (defScope s__law_is_integer) := ⟨rfl, rfl, rfl, by decide +kernel, rfl, by decide +kernel, by decide +kernel⟩
abbrev s__law_draws : Stmt := (topS 13)
theorem sc__law_draws : FnScope ["script", "many", "draws", "mixed", "k", "cell", "rest", "turn"] ["script", "many"] (defScope s__law_draws) := ⟨rfl, rfl, rfl, by decide +kernel, rfl, by decide +kernel, by decide +kernel⟩
abbrev s__law_expected : Stmt := (topS 14)
theorem sc__law_expected : FnScope ["row", "index", "number", "scale", "count", "byte"] ["row", "index"] (defScope s__law_expected) := ⟨rfl, rfl, rfl, by decide +kernel, rfl, by decide +kernel, by decide +kernel⟩
abbrev s__law_actual : Stmt := (topS 15)
theorem sc__law_actual : FnScope ["row", "index", "passed", "actual", "e"] ["row", "index"] (defScope s__law_actual) := ⟨rfl, rfl, rfl, by decide +kernel, rfl, by decide +kernel, by decide +kernel⟩
abbrev s__law_byte : Stmt := (topS 16)
theorem sc__law_byte : FnScope ["draw"] ["draw"] (defScope s__law_byte) := ⟨rfl, rfl, rfl, by decide +kernel, rfl, by decide +kernel, by decide +kernel⟩
abbrev s_law : Stmt := (topS 17)
theorem sc_law : FnScope ["script", "draws", "k", "part", "row", "index", "draw", "at"] ["script"] (defScope s_law) := ⟨rfl, rfl, rfl, by decide +kernel, rfl, by decide +kernel, by decide +kernel⟩

structure TX (K : PySem.W.Frag) (mg : Str → Option Value) where
  a_MajordomoError : Addr
  g_MajordomoError : mg "MajordomoError" = some (.ref a_MajordomoError)
  x_MajordomoError : PySem.W.excIn K a_MajordomoError [.type "ValueError", .type "Exception", .type "BaseException", .type "object"] "ValueError.__new__" = true
  k_MajordomoError : PySem.W.keepIn K (.ref a_MajordomoError) = true
  s_MajordomoError : PySem.W.subIn K (.ref a_MajordomoError) (.type "BaseException") = some true
  t_MajordomoError : PySem.W.typeIn K (.ref a_MajordomoError) = some (.type "type")
  a_CodecError : Addr
  g_CodecError : mg "CodecError" = some (.ref a_CodecError)
  x_CodecError : PySem.W.excIn K a_CodecError [.type "ValueError", .type "Exception", .type "BaseException", .type "object"] "ValueError.__new__" = true
  k_CodecError : PySem.W.keepIn K (.ref a_CodecError) = true
  s_CodecError : PySem.W.subIn K (.ref a_CodecError) (.type "BaseException") = some true
  t_CodecError : PySem.W.typeIn K (.ref a_CodecError) = some (.type "type")
  a_Truncated : Addr
  g_Truncated : mg "Truncated" = some (.ref a_Truncated)
  x_Truncated : PySem.W.excIn K a_Truncated [.type "ValueError", .type "Exception", .type "BaseException", .type "object"] "ValueError.__new__" = true
  k_Truncated : PySem.W.keepIn K (.ref a_Truncated) = true
  s_Truncated : PySem.W.subIn K (.ref a_Truncated) (.type "BaseException") = some true
  t_Truncated : PySem.W.typeIn K (.ref a_Truncated) = some (.type "type")
  ee_Truncated : PySem.W.exmOne K (.ref a_Truncated) (.ref a_Truncated) = some true
  a_Malformed : Addr
  g_Malformed : mg "Malformed" = some (.ref a_Malformed)
  x_Malformed : PySem.W.excIn K a_Malformed [.type "ValueError", .type "Exception", .type "BaseException", .type "object"] "ValueError.__new__" = true
  k_Malformed : PySem.W.keepIn K (.ref a_Malformed) = true
  s_Malformed : PySem.W.subIn K (.ref a_Malformed) (.type "BaseException") = some true
  t_Malformed : PySem.W.typeIn K (.ref a_Malformed) = some (.type "type")
  ee_Malformed : PySem.W.exmOne K (.ref a_Malformed) (.ref a_Malformed) = some true
  a_Damaged : Addr
  g_Damaged : mg "Damaged" = some (.ref a_Damaged)
  x_Damaged : PySem.W.excIn K a_Damaged [.type "ValueError", .type "Exception", .type "BaseException", .type "object"] "ValueError.__new__" = true
  k_Damaged : PySem.W.keepIn K (.ref a_Damaged) = true
  s_Damaged : PySem.W.subIn K (.ref a_Damaged) (.type "BaseException") = some true
  t_Damaged : PySem.W.typeIn K (.ref a_Damaged) = some (.type "type")
  a_NotAValue : Addr
  g_NotAValue : mg "NotAValue" = some (.ref a_NotAValue)
  x_NotAValue : PySem.W.excIn K a_NotAValue [.type "ValueError", .type "Exception", .type "BaseException", .type "object"] "ValueError.__new__" = true
  k_NotAValue : PySem.W.keepIn K (.ref a_NotAValue) = true
  s_NotAValue : PySem.W.subIn K (.ref a_NotAValue) (.type "BaseException") = some true
  t_NotAValue : PySem.W.typeIn K (.ref a_NotAValue) = some (.type "type")
  a_StoreError : Addr
  g_StoreError : mg "StoreError" = some (.ref a_StoreError)
  x_StoreError : PySem.W.excIn K a_StoreError [.type "ValueError", .type "Exception", .type "BaseException", .type "object"] "ValueError.__new__" = true
  k_StoreError : PySem.W.keepIn K (.ref a_StoreError) = true
  s_StoreError : PySem.W.subIn K (.ref a_StoreError) (.type "BaseException") = some true
  t_StoreError : PySem.W.typeIn K (.ref a_StoreError) = some (.type "type")
  em_Truncated_Truncated : PySem.W.exmOne K (.ref a_Truncated) (.ref a_Truncated) = some true
  em_Truncated_Malformed : PySem.W.exmOne K (.ref a_Malformed) (.ref a_Truncated) = some false
  em_CodecError_Malformed : PySem.W.exmOne K (.ref a_Malformed) (.ref a_CodecError) = some true
  X_Truncated : ExcC K a_Truncated
  y_Truncated_CodecError : PySem.W.kitOne K (.ref a_Truncated) (.ref a_CodecError) = some true
  y_Truncated_MajordomoError : PySem.W.kitOne K (.ref a_Truncated) (.ref a_MajordomoError) = some true
  y_Truncated_ValueError : PySem.W.kitOne K (.ref a_Truncated) (.type "ValueError") = some true
  y_Truncated_Malformed : PySem.W.kitOne K (.ref a_Truncated) (.ref a_Malformed) = some false
  y_Truncated_Damaged : PySem.W.kitOne K (.ref a_Truncated) (.ref a_Damaged) = some false
  y_Truncated_NotAValue : PySem.W.kitOne K (.ref a_Truncated) (.ref a_NotAValue) = some false
  y_Truncated_StoreError : PySem.W.kitOne K (.ref a_Truncated) (.ref a_StoreError) = some false
  X_Malformed : ExcC K a_Malformed
  y_Malformed_Malformed : PySem.W.kitOne K (.ref a_Malformed) (.ref a_Malformed) = some true
  y_Malformed_Damaged : PySem.W.kitOne K (.ref a_Malformed) (.ref a_Damaged) = some false
  y_Malformed_NotAValue : PySem.W.kitOne K (.ref a_Malformed) (.ref a_NotAValue) = some false
  a_take_number : Addr
  d_take_number : FuncData
  F_take_number : Fun K "take_number" "take_number" s_take_number a_take_number d_take_number
  b_take_number : Binds K d_take_number ["row", "index"] []
  g_take_number : mg "take_number" = some (.ref a_take_number)
  a__law_is_integer : Addr
  d__law_is_integer : FuncData
  F__law_is_integer : Fun K "_law_is_integer" "_law_is_integer" s__law_is_integer a__law_is_integer d__law_is_integer
  b__law_is_integer : Binds K d__law_is_integer ["actual"] []
  g__law_is_integer : mg "_law_is_integer" = some (.ref a__law_is_integer)
  a__law_draws : Addr
  d__law_draws : FuncData
  F__law_draws : Fun K "_law_draws" "_law_draws" s__law_draws a__law_draws d__law_draws
  b__law_draws : Binds K d__law_draws ["script", "many"] []
  g__law_draws : mg "_law_draws" = some (.ref a__law_draws)
  a__law_expected : Addr
  d__law_expected : FuncData
  F__law_expected : Fun K "_law_expected" "_law_expected" s__law_expected a__law_expected d__law_expected
  b__law_expected : Binds K d__law_expected ["row", "index"] []
  g__law_expected : mg "_law_expected" = some (.ref a__law_expected)
  a__law_actual : Addr
  d__law_actual : FuncData
  F__law_actual : Fun K "_law_actual" "_law_actual" s__law_actual a__law_actual d__law_actual
  b__law_actual : Binds K d__law_actual ["row", "index"] []
  g__law_actual : mg "_law_actual" = some (.ref a__law_actual)
  a__law_byte : Addr
  d__law_byte : FuncData
  F__law_byte : Fun K "_law_byte" "_law_byte" s__law_byte a__law_byte d__law_byte
  b__law_byte : Binds K d__law_byte ["draw"] []
  g__law_byte : mg "_law_byte" = some (.ref a__law_byte)
  a_law : Addr
  d_law : FuncData
  F_law : Fun K "law" "law" s_law a_law d_law
  b_law : Binds K d_law ["script"] []
  g_law : mg "law" = some (.ref a_law)
  t_MOST_BYTES : Tok
  c_MOST_BYTES : mg "MOST_BYTES" = some (.int 500 t_MOST_BYTES)
  n_range : mg "range" = none
  n_len : mg "len" = none
  n_abs : mg "abs" = none
  n_int : mg "int" = none
  n_isinstance : mg "isinstance" = none
  n_bool : mg "bool" = none
  n_min : mg "min" = none
  n_list : mg "list" = none
  n_ValueError : mg "ValueError" = none
  n_tuple : mg "tuple" = none

/-! try with several clauses, each with a name of its own -/
/-- a clause: the class, the slot of the name, the suite's reading -/
structure Cl where
  c : Value
  i : Nat
  ts : Addr → Value → Option Addr → TS
/-- behind a suite its name is gone -/
def goneE (i : Nat) (D : Ends) : Ends := ⟨fun τ J => D.nx (τ.set i none) J, D.rt, fun τ J => D.bk (τ.set i none) J, fun τ J => D.ct (τ.set i none) J⟩
def wCl (K : PySem.W.Frag) (Wo : WX) (D : Ends) : List Cl → WX
  | [] => Wo
  | k :: r => fun cl dd τ J => ∃ yes, PySem.W.exmOne K cl k.c = some yes ∧ (yes = true → ∀ a, J a = none → k.ts a cl dd (goneE k.i D) (τ.set k.i (some (.ref a))) J) ∧ (yes = false → wCl K Wo D r cl dd τ J)
inductive ClOk (X : Cx) : List ExceptHandler → List Cl → Prop
  | nil : ClOk X [] []
  | cons {x n : Str} {c : Value} {i : Nat} {ts : Addr → Value → Option Addr → TS} {b0 : Stmt} {bs : List Stmt} {p1 p2 : Pos} {hs : List ExceptHandler} {ks : List Cl} (hi : X.N[i]? = some n) (hl : X.env.kindOf n = some .local) (hc : Names X x c)
      (hb : ∀ (a : Addr) (ob : Obj) (cl : Value) (dd : Option Addr) (ps : List (Addr × Obj)), Zc cl dd ob → (∃ vs, ob.data = .fields vs) → PSs (X.suite a ((a, ob) :: ps)) (b0 :: bs) (ts a cl dd)) (r : ClOk X hs ks) :
      ClOk X (.ExceptHandler (some (.Name x p1)) (some n) (b0 :: bs) p2 :: hs) (⟨c, i, ts⟩ :: ks)
section
variable {X : Cx} {body : List Stmt} {h0 : ExceptHandler} {hs : List ExceptHandler} {ks : List Cl} {p0 : Pos} {tb : WX → TS} {Wo : WX}
theorem ps_try_cl (e1 : X.stack = X.env :: X.outer) (e2 : X.env.frame = some X.env.locals) (hN : X.N.Nodup) (tk : Takes X Wo)
    (hb : ∀ (Wi : WX) (ps : List (Addr × Obj)) (xe : Value → Shared → Prop), Takes (X.tr ps xe) Wi → PassesOwn (model X.prog X.w) X.A X.env xe → PSs (X.tr ps xe) body (tb Wi))
    (hh : ClOk X (h0 :: hs) ks) : PS X (.Try body (h0 :: hs) [] [] p0) (fun D τ J => tb (wCl X.K Wo D ks) D τ J) := by
  refine ⟨fun pins s τ J D I0 h => ?_⟩
  have okX := I0.ok
  have efr : X.A.frames = some (X.env :: X.outer) := okX.frames.trans (by rw [e1])
  refine wpAny_Try_except ?_
  have hrun := (hb (wCl X.K Wo D ks) (X.pn ++ pins) (fun e t1 => wpAny (model X.prog X.w) X.A (noteFrame e X.env) (fun _ t2 => wpAny (model X.prog X.w) X.A (setFlight e none) (fun _ t3 => wpAny (model X.prog X.w) X.A (handleBy e X.env (h0 :: hs)) (SP X pins D) X.xe t3) X.xe t2) X.xe t1) ?takes PassesOwn.looking).run [] s τ J D (I0.toTry _) h
  case takes =>
    rintro u t ⟨a, B, tI, qins, τ', J', cl, dd, rfl, I', nb, up0, sk, na, os, ag, w⟩
    have I1 : Inv X pins τ' J' tI := I'.ofTry okX
    have sk1 : Sky B (X.env :: X.outer) a (Zc cl dd) X.env.locals t.heap := e1 ▸ sk
    show wpAny (model X.prog X.w) X.A (noteFrame (.ref a) X.env) _ _ _
    refine Sky.land Zc.steady efr e2 sk1 fun h3 fl up1 => ?_
    have I3 : Inv X pins τ' J' { t with heap := h3 } := I1.landed nb fl.1 (up0.trans up1) os ag
    obtain ⟨o3, vs3, g3, z3, d3⟩ := fl.there
    have nofr : a ∉ frs (X.env :: X.outer) := fun hm => by
      obtain ⟨_, o', g', nf⟩ := fl.2.2.1.mem hm
      rw [g3] at g'
      cases g'
      exact nf _ d3
    have noL : a ≠ X.env.locals := fun z => nofr (List.mem_filterMap.mpr ⟨X.env, List.mem_cons_self, e2.trans (by rw [z])⟩)
    have noF : a ∉ X.fs := fun hm => by
      obtain ⟨e, he, q⟩ := List.mem_filterMap.mp hm
      exact nofr (List.mem_filterMap.mpr ⟨e, List.mem_cons_of_mem _ he, q⟩)
    have S3 := I3.suite g3 d3 na noL noF
    have pass : ∀ {gs : List ExceptHandler} {ls : List Cl}, ClOk X gs ls → wCl X.K Wo D ls cl dd τ' J' → wpAny (model X.prog X.w) X.A (handleBy (.ref a) X.env gs) (SP X pins D) X.xe { t with heap := h3 } := fun {gs ls} hk => by
      induction hk with
      | nil =>
        intro wo
        refine wpAny_handleBy_nil ?_
        obtain ⟨_, _, _, ob, vs, Tb, oT, ts', he, _, hd, h1, _⟩ := id fl
        unfold PySem.passOn
        refine wpAny_bind (wpAny_field he hd h1 ?_)
        rw [if_neg (show ¬ ((Value.ref Tb == Value.none) = true) from by simp)]
        have last : wpAny (model X.prog X.w) X.A (setFlight (.ref a) X.env.frame) (fun _ t4 => wpAny (model X.prog X.w) X.A (throw (.ref a) : Sem Flow) (SP X pins D) X.xe t4) X.xe { t with heap := h3 } := by
          rw [e2]
          exact HandSPX.setFlight_upZ fl fun h4 fl4 up4 => wpAny_throw (tk _ _ ⟨a, B, tI, pins, τ', J', cl, dd, rfl, I1, nb, (up0.trans up1).trans up4, .inr (.inr (by rw [e1]; exact fl4)), na, os, ag, wo⟩)
        first
          | exact wpAny_bind (wpAny_pure (wpAny_bind last))
          | exact wpAny_bind last
      | @cons x n c i ts b0 bs p1 p2 hs2 ks2 hi hl hc hsu _ ih =>
        rintro ⟨yes, hy, hyes, hno⟩
        refine wpAny_handleBy_cons (codeAny_handlers_test ?_) (by intro q; cases q)
        have LT : PySem.W.Looks (model X.prog X.w) h3 (typeOf (.ref a)) cl := fun A0 Q0 E0 s0 kk q => wpAny_typeOf_ref (kk _ _ g3) (by rw [z3.1]; exact q)
        have LM := PySem.W.exm_one (M := model X.prog X.w) I3.kIn LT hy
        have look : ∀ {Q0 E0 : Value → Shared → Prop}, Q0 c { t with heap := h3 } → wpAny (model X.prog X.w) (X.A.mark (some (.ref a))) (eval (.Name x p1) X.env) Q0 E0 { t with heap := h3 } := fun {Q0 E0} q => by
          obtain ⟨hg, hdb, hm | ⟨hm, hv, hnn⟩⟩ := hc
          · exact ld_glob (X := X.suite a ((a, o3) :: (X.pn ++ pins))) S3 hg hm q hdb
          · exact ld_blt (X := X.suite a ((a, o3) :: (X.pn ++ pins))) S3 hg hm hv q hnn hdb
        refine look (LM.here ?_)
        cases yes with
        | false =>
          show wpAny _ X.A (handleBy (.ref a) X.env hs2) _ _ _
          exact ih (hno rfl)
        | true =>
          refine codeAny_handlers_suite_as ?_
          refine HandSPX.lands_againZ fl fun h4 fl4 up4 => ?_
          have I4 : Inv X pins τ' J' { t with heap := h4 } := I1.landed nb fl4.1 ((up0.trans up1).trans up4) os ag
          obtain ⟨o4, vs4, g4, z4, d4⟩ := fl4.there
          have S4 := I4.suite g4 d4 na noL noF
          refine store_ok (X := X.suite a ((a, o4) :: (X.pn ++ pins))) (v := .ref a) S4 hN hi (.inl hl) rfl (fun t5 S5 => ?_) (.inr hl)
          refine wpAny_mono ((hsu a o4 cl dd (X.pn ++ pins) z4 ⟨_, d4⟩).run [] t5 _ J' _ S5 (hyes rfl a na)) (fun f t6 fin => ?_) (fun _ _ z => False.elim z)
          have off : ∀ {τ6 : L2.St} {J6 : Hp} {Qz : Shared → Prop}, Inv (X.suite a ((a, o4) :: (X.pn ++ pins))) [] τ6 J6 t6 → (∀ t7, Inv X pins (τ6.set i none) J6 t7 → Qz t7) → wpAny (model X.prog X.w) X.A (do bindName X.env n .none; unbindBehindTheSuite X.env n p2) (fun _ t7 => Qz t7) X.xe t6 := fun {τ6 J6 Qz} S6 hq => gone_ok (S6.unsuite okX) hN hi hl hq
          cases f with
          | next => exact let ⟨τ6, J6, S6, q6⟩ := fin; off S6 fun t7 I7 => ⟨_, _, I7, q6⟩
          | brk => exact let ⟨τ6, J6, S6, q6⟩ := fin; off S6 fun t7 I7 => ⟨_, _, I7, q6⟩
          | cont => exact let ⟨τ6, J6, S6, q6⟩ := fin; off S6 fun t7 I7 => ⟨_, _, I7, q6⟩
          | ret u => exact let ⟨v6, τ6, J6, S6, r6, q6⟩ := fin; off S6 fun t7 I7 => ⟨_, _, _, I7, r6, q6⟩
    exact pass hh w
  refine wpAny_mono hrun (fun f t1 fin => ?_) (fun e t1 he => he)
  cases f with
  | next => exact let ⟨τ', J', I', q⟩ := fin; wpAny_execs_nil ⟨τ', J', I'.ofTry okX, q⟩
  | brk => exact let ⟨τ', J', I', q⟩ := fin; ⟨τ', J', I'.ofTry okX, q⟩
  | cont => exact let ⟨τ', J', I', q⟩ := fin; ⟨τ', J', I'.ofTry okX, q⟩
  | ret u => exact let ⟨v, τ', J', I', r, q⟩ := fin; ⟨v, τ', J', I'.ofTry okX, r, q⟩
end
theorem or_use {ta tb : TT} {σ : L2.St} {H : Hp} {Q : Bool → Hp → Prop} {x y : Bool} (ha : ∀ R : Bool → Hp → Prop, R x H → ta σ H R) (hb : ∀ R : Bool → Hp → Prop, R y H → tb σ H R) (q : Q (x || y) H) : tOr ta tb σ H Q := by
  refine ha _ ?_
  cases x with
  | true => exact (if_pos rfl).mpr q
  | false => exact (if_neg Bool.false_ne_true).mpr (hb _ q)
theorem and_use {ta tb : TT} {σ : L2.St} {H : Hp} {Q : Bool → Hp → Prop} {x y : Bool} (ha : ∀ R : Bool → Hp → Prop, R x H → ta σ H R) (hb : ∀ R : Bool → Hp → Prop, R y H → tb σ H R) (q : Q (x && y) H) : tAnd ta tb σ H Q := by
  refine ha _ ?_
  cases x with
  | true => exact (if_pos rfl).mpr (hb _ q)
  | false => exact (if_neg Bool.false_ne_true).mpr q
/-! the draws of a script: many numbers from 0 to 996 -/
def Drawn (ds : List Int) : Prop := ∀ d ∈ ds, 0 ≤ d ∧ d < 997
theorem drawn_app {ds es : List Int} (h : Drawn ds) (g : Drawn es) : Drawn (ds ++ es) := fun d hd => (List.mem_append.mp hd).elim (h d) (g d)
theorem drawn_one {d : Int} (h : 0 ≤ d) (g : d < 997) : Drawn [d] := fun e he => by rw [List.mem_singleton] at he; subst he; exact ⟨h, g⟩
theorem drawn_take {ds : List Int} (n : Nat) (h : Drawn ds) : Drawn (ds.take n) := fun d hd => h d (List.mem_of_mem_take hd)
def sp_draws (K : PySem.W.Frag) : Sp := fun vs H Q _ => ∃ (a : Addr) (ns : List Int) (many : Nat), vs = [.ref a, .int (many : Int)] ∧ SqL K H a (ns.map V.int) ∧ ns.length ≤ 63 ∧ many ≤ 1000 ∧
  ∀ (p : Addr) (H' : Hp) (ds : List Int), H p = none → Same H H' → H' p = some (.lst (ds.map V.int)) → Drawn ds → ds.length = many → Q (.ref p) H'
section
variable {P : Program} {w : World} {K : PySem.W.Frag} {mg : Str → Option Value} {base : Heap}
theorem ok__law_draws (T : TX K mg) : FnOk P w K mg base CX0 1 T.a__law_draws T.d__law_draws ["script", "many"] (sp_draws K) := by
  refine T.F__law_draws.ok sc__law_draws (fun vs H Q E h => ?_) (fun cdv A outer s H vs Q E hr h => ?_)
  · obtain ⟨a, ns, many, rfl, _⟩ := h
    rfl
  · obtain ⟨a, ns, many, rfl, hS, hlen, hm, q⟩ := h
    refine ⟨_, (pss_cons (ps_set (i := 2) sc__law_draws.nd rfl (Or.inl rfl) (pe_lst pa_nil))
      (pss_cons (ps_set (i := 3) sc__law_draws.nd rfl (Or.inl rfl) pe_int)
      (pss_cons (ps_for PassesOwn.never rfl (pi_range1 (by rfl) T.n_range (pa_cons (pe_callB call_len_seq (by rfl) T.n_len PySem.boot_len (pa_cons (pv 0) pa_nil)) pa_nil)) (pg_name (i := 4) sc__law_draws.nd rfl (Or.inl rfl))
        (pss_cons (ps_set (i := 5) sc__law_draws.nd rfl (Or.inl rfl) (pe_callB call_abs (by rfl) T.n_abs (by decide +kernel) (pa_cons (pe_callTy call_int1 (by rfl) T.n_int (by decide +kernel) (pa_cons (pe_ix ix_list (pv 0) (pv 4) (fun _ _ => rfl)) pa_nil)) pa_nil)))
        (pss_cons (ps_set (i := 3) sc__law_draws.nd rfl (Or.inl rfl) (pe_op op_mod (pe_callTy call_int1 (by rfl) T.n_int (by decide +kernel) (pa_cons (pe_op op_add (pe_op op_add (pe_op op_mul (pv 3) pe_int) (pe_op op_mod (pv 5) pe_int)) (pv 4)) pa_nil)) pe_int))
        (pss_cons (ps_set (i := 6) sc__law_draws.nd rfl (Or.inl rfl) pe_int)
        (C8.pss_cut (ps_if (pt_cmpR op_ge (pv 5) (pe_op op_pow pe_int pe_int) (nomark _)) (pss_one (ps_set (i := 6) sc__law_draws.nd rfl (Or.inl rfl) (pv 5))) (pss_cons (ps_expr (pe_bm PySem.F.plainAttrs_list PySem.F.slot_list_append PySem.F.type_list_append mt_append (pv 2) (pa_cons (pe_op op_mod (pv 5) pe_int) pa_nil)))
          (pss_one (ps_expr (pe_bm PySem.F.plainAttrs_list PySem.F.slot_list_append PySem.F.type_list_append mt_append (pv 2) (pa_cons (pe_op op_mod (pe_op op_mod (pe_callTy call_int1 (by rfl) T.n_int (by decide +kernel) (pa_cons (pe_op op_add (pe_op op_mul (pv 3) pe_int) pe_int) pa_nil)) pe_int) pe_int) pa_nil))))))
        (pss_one (ps_for PassesOwn.never rfl (pi_range1 (by rfl) T.n_range (pa_cons pe_int pa_nil)) (pg_name (i := 7) sc__law_draws.nd rfl (Or.inl rfl))
          (pss_one (ps_if (pt_cmpR op_gt (pv 6) pe_int (nomark _)) (pss_cons (ps_expr (pe_bm PySem.F.plainAttrs_list PySem.F.slot_list_append PySem.F.type_list_append mt_append (pv 2) (pa_cons (pe_op op_mod (pe_callTy call_int1 (by rfl) T.n_int (by decide +kernel) (pa_cons (pv 6) pa_nil)) pe_int) pa_nil)))
            (pss_one (ps_set (i := 6) sc__law_draws.nd rfl (Or.inl rfl) (pe_op op_fdiv (pv 6) pe_int)))) pss_nil)))))))))
      (pss_cons (ps_for PassesOwn.never rfl (pi_range1 (by rfl) T.n_range (pa_cons (pv 1) pa_nil)) (pg_name (i := 4) sc__law_draws.nd rfl (Or.inl rfl))
        (pss_cons (ps_set (i := 3) sc__law_draws.nd rfl (Or.inl rfl) (pe_op op_mod (pe_callTy call_int1 (by rfl) T.n_int (by decide +kernel) (pa_cons (pe_op op_add (pe_op op_add (pe_op op_mul (pv 3) pe_int) (pv 4)) pe_int) pa_nil)) pe_int))
        (pss_one (ps_expr (pe_bm PySem.F.plainAttrs_list PySem.F.slot_list_append PySem.F.type_list_append mt_append (pv 2) (pa_cons (pe_op op_mod (pe_callTy call_int1 (by rfl) T.n_int (by decide +kernel) (pa_cons (pv 3) pa_nil)) pe_int) pa_nil))))))
      (pss_one (ps_ret (pe_slice sl_list (pv 2) po_none (po_some (pv 1))))))))), ?_⟩
    refine ⟨Nat.zero_le _, fun o ho => ?_⟩
    have s1 := same_upd (o := .lst []) ho
    -- each cell
    refine ⟨_, rfl, a, _, rfl, .inl (s1.seq hS), _, rfl, by rw [List.length_map]; omega, by rw [List.length_map]; omega, for_range (lo := 0) (n := _) (fun i σ H2 => ∃ (ds : List Int) (mx : Int) (x4 x5 x6 x7 : Option V), σ = [some (.ref a), some (.int (many : Int)), some (.ref o), some (.int mx), x4, x5, x6, x7] ∧ Same H H2 ∧ H2 o = some (.lst (ds.map V.int)) ∧ Drawn ds ∧ ds.length ≤ 62 * i)
      ⟨[], 7, none, none, none, none, rfl, s1, upd_same, (fun _ h => by cases h), Nat.le_refl _⟩ ?_ ?_⟩
    · rintro i σ H2 hi ⟨ds, mx, x4, x5, x6, x7, rfl, g1, g2, g3, g4⟩
      rw [List.length_map] at hi
      have hi' : i < ns.length := by omega
      have hg : ns[i]? = some ns[i] := List.getElem?_eq_getElem hi'
      have ha : atI (ns.map V.int) (0 + (i : Int)) = some (.int ns[i]) := by rw [Int.zero_add]; exact at_map hg
      generalize ns[i] = c at ha
      -- cell, mixed
      refine ⟨_, rfl, _, rfl, a, _, _, _, rfl, rfl, g1.seq hS, ha, .inl ⟨_, rfl, _, rfl, ?_⟩⟩
      dsimp only
      have hc : 0 ≤ (if c < 0 then -c else c) := by split <;> omega
      generalize (if c < 0 then -c else c) = cell at hc
      refine ⟨_, rfl, _, _, rfl, rfl, .inr ⟨by decide, by decide⟩, _, rfl, _, _, rfl, rfl, (by show (0 : Int) < _; decide), _, _, rfl, rfl, _, rfl, _, _, rfl, rfl, .inl ⟨_, rfl, _, _, rfl, rfl, (by show (0 : Int) < _; decide), ?_⟩⟩
      dsimp only
      generalize (mx * 48271 + cell % 1000003 + (0 + (i : Int))) % 65537 = mx2
      -- rest = 0; if cell >= 10 ** 18
      refine ⟨fun σ' H' => ∃ (ds' : List Int) (rest : Int) , 0 ≤ rest ∧ σ' = [some (.ref a), some (.int (many : Int)), some (.ref o), some (.int mx2), some (.int (0 + (i : Int))), some (.int cell), some (.int rest), x7] ∧ Same H H' ∧ H' o = some (.lst (ds'.map V.int)) ∧ Drawn ds' ∧ ds'.length ≤ 62 * i + 2, ?_, ?_⟩
      · refine ⟨_, rfl, _, _, rfl, rfl, ⟨by decide, by decide, by decide⟩, _, _, rfl, rfl, _, rfl, ifd (fun hb => ?_) (fun hb => ?_)⟩
        · exact ⟨_, rfl, ds, cell, hc, rfl, g1, g2, g3, by omega⟩
        · refine ⟨_, rfl, .inl ⟨rfl, _, sql g2⟩, _, rfl, _, _, rfl, rfl, (by show (0 : Int) < _; decide), o, _, _, rfl, rfl, g2, szl (by rw [List.length_map]; omega), ?_⟩
          refine ⟨_, rfl, .inl ⟨rfl, _, sql upd_same⟩, _, rfl, _, _, rfl, rfl, .inr ⟨by decide, by decide⟩, _, _, rfl, rfl, .inl ⟨_, rfl, _, _, rfl, rfl, (by show (0 : Int) < _; decide), _, _, rfl, rfl, (by show (0 : Int) < _; decide), o, _, _, rfl, rfl, upd_same, szl (by rw [List.length_append, List.length_map]; simp only [List.length_cons, List.length_nil]; omega), ?_⟩⟩
          refine ⟨ds ++ [cell % 997, (mx2 * 69621 + 5) % 65521 % 997], 0, Int.le_refl _, rfl, same_put (same_put g1 ho) ho, ?_, drawn_app g3 fun d hd => ?_, by rw [List.length_append]; simp only [List.length_cons, List.length_nil]; omega⟩
          · rw [upd_same, List.map_append, List.append_assoc]
            rfl
          · simp only [List.mem_cons, List.not_mem_nil, or_false] at hd
            rcases hd with rfl | rfl
            · exact ⟨Int.emod_nonneg _ (by decide), Int.emod_lt_of_pos _ (by decide)⟩
            · exact ⟨Int.emod_nonneg _ (by decide), Int.emod_lt_of_pos _ (by decide)⟩
      rintro σ' H' ⟨ds', rest, hr0, rfl, k1, k2, k3, k4⟩
      -- sixty times
      refine ⟨60, rfl, by decide, by decide, for_range (lo := 0) (n := 60) (fun j σ H3 => ∃ (es : List Int) (rest : Int) (x7 : Option V), 0 ≤ rest ∧ σ = [some (.ref a), some (.int (many : Int)), some (.ref o), some (.int mx2), some (.int (0 + (i : Int))), some (.int cell), some (.int rest), x7] ∧ Same H H3 ∧ H3 o = some (.lst (es.map V.int)) ∧ Drawn es ∧ es.length ≤ 62 * i + 2 + j)
        ⟨ds', rest, x7, hr0, rfl, k1, k2, k3, k4⟩ ?_ ?_⟩
      · rintro j σ H3 hj ⟨es, rest, x7, h0, rfl, k1, k2, k3, k4⟩
        refine ⟨_, rfl, _, _, rfl, rfl, _, rfl, ifd (fun hb => ?_) (fun hb => ?_)⟩
        · refine ⟨_, rfl, .inl ⟨rfl, _, sql k2⟩, _, rfl, .inl ⟨_, rfl, _, _, rfl, rfl, (by show (0 : Int) < _; decide), o, _, _, rfl, rfl, k2, szl (by rw [List.length_map]; omega), ?_⟩⟩
          refine ⟨_, rfl, _, _, rfl, rfl, ⟨by decide, by decide⟩, ?_⟩
          refine ⟨es ++ [rest % 997], rest / 997, some (.int (0 + (j : Int))), Int.ediv_nonneg h0 (by decide), rfl, same_put k1 ho, ?_, drawn_app k3 (drawn_one (Int.emod_nonneg _ (by decide)) (Int.emod_lt_of_pos _ (by decide))), by rw [List.length_append]; simp only [List.length_cons, List.length_nil]; omega⟩
          rw [upd_same, List.map_append]
          rfl
        · exact ⟨es, rest, some (.int (0 + (j : Int))), h0, rfl, k1, k2, k3, by omega⟩
      · rintro σ H3 ⟨es, rest, x7, h0, rfl, k1, k2, k3, k4⟩
        exact ⟨es, mx2, _, _, _, _, rfl, k1, k2, k3, by omega⟩
    · rintro σ H2 ⟨ds, mx, x4, x5, x6, x7, rfl, g1, g2, g3, g4⟩
      have hl0 : ds.length ≤ 4000 := by
        simp only [List.length_map] at g4
        omega
      refine ⟨_, rfl, (many : Int), rfl, by omega, by omega, for_range (lo := 0) (n := (many : Int).toNat) (fun i σ H3 => ∃ (es : List Int) (mx : Int) (x4 : Option V), σ = [some (.ref a), some (.int (many : Int)), some (.ref o), some (.int mx), x4, x5, x6, x7] ∧ Same H H3 ∧ H3 o = some (.lst (es.map V.int)) ∧ Drawn es ∧ es.length = ds.length + i)
        ⟨ds, mx, x4, rfl, g1, g2, g3, rfl⟩ ?_ ?_⟩
      · rintro i σ H3 hi ⟨es, mx, x4, rfl, k1, k2, k3, k4⟩
        refine ⟨_, rfl, _, _, rfl, rfl, .inr ⟨by decide, by decide⟩, _, rfl, _, _, rfl, rfl, _, _, rfl, rfl, .inl ⟨_, rfl, _, _, rfl, rfl, (by show (0 : Int) < _; decide), ?_⟩⟩
        refine ⟨_, rfl, .inl ⟨rfl, _, sql k2⟩, _, rfl, .inl ⟨_, rfl, _, _, rfl, rfl, (by show (0 : Int) < _; decide), o, _, _, rfl, rfl, k2, szl (by rw [List.length_map]; omega), ?_⟩⟩
        refine ⟨es ++ [(mx * 16807 + (0 + (i : Int)) + 1) % 65537 % 997], (mx * 16807 + (0 + (i : Int)) + 1) % 65537, some (.int (0 + (i : Int))), rfl, same_put k1 ho, ?_, drawn_app k3 (drawn_one (Int.emod_nonneg _ (by decide)) (Int.emod_lt_of_pos _ (by decide))), by rw [List.length_append, k4]; simp only [List.length_cons, List.length_nil]; omega⟩
        rw [upd_same, List.map_append]
        rfl
      · rintro σ H3 ⟨es, mx, x4, rfl, k1, k2, k3, k4⟩
        refine ⟨_, rfl, _, rfl, _, rfl, o, _, rfl, sql k2, fun p hp => ?_⟩
        refine q p _ (es.take many) (k1.free hp) (k1.trans (same_upd hp)) ?_ (drawn_take _ k3) (by rw [List.length_take]; omega)
        rw [upd_same, cut0n, List.map_take]
end
/-! an int that is no bool -/
def sp_isint : Sp := fun vs H Q _ => ∃ (i : Int), vs = [.int i] ∧ Q (.bl true) H
section
variable {P : Program} {w : World} {K : PySem.W.Frag} {mg : Str → Option Value} {base : Heap}
theorem ok__law_is_integer (T : TX K mg) : FnOk P w K mg base CX0 1 T.a__law_is_integer T.d__law_is_integer ["actual"] sp_isint := by
  refine T.F__law_is_integer.ok sc__law_is_integer (fun vs H Q E h => ?_) (fun cdv A outer s H vs Q E hr h => ?_)
  · obtain ⟨i, rfl, _⟩ := h
    rfl
  · obtain ⟨i, rfl, q⟩ := h
    refine ⟨_, (pss_one (ps_ret (pe_and (pe_callB call_isi (by rfl) T.n_isinstance (by decide +kernel) (pa_cons (pv 0) (pa_cons (pe_bltn (v := .ty "int") (u := .type "int") (by rfl) T.n_int (by decide +kernel) rfl) pa_nil))) (pe_one (pe_not (pe_callB call_isi (by rfl) T.n_isinstance (by decide +kernel) (pa_cons (pv 0) (pa_cons (pe_bltn (v := .ty "bool") (u := .type "bool") (by rfl) T.n_bool (by decide +kernel) rfl) pa_nil)))))))), ?_⟩
    refine ⟨.int i, rfl, .int i, .ty "int", .type "int", .type "int", true, rfl, .ty _, .base (.int i), kit_ty (by decide +kernel), true, rfl, ifbt rfl ?_⟩
    refine ⟨.int i, rfl, .int i, .ty "bool", .type "int", .type "bool", false, rfl, .ty _, .base (.int i), kit_ty (by decide +kernel), false, rfl, ?_⟩
    exact q
end
def Bytes (bs : List Int) : Prop := ∀ b ∈ bs, 0 ≤ b ∧ b < 256
/-- numbers stay below this -/
def Lim : Nat := 128 ^ 500
/-! numbers written in groups of seven bits -/
def enc (n : Nat) : List Int := if h : n ≤ 127 then [(n : Int)] else ((128 + n % 128 : Nat) : Int) :: enc (n / 128)
termination_by n
decreasing_by omega
theorem enc_small {n : Nat} (h : n ≤ 127) : enc n = [(n : Int)] := by rw [enc, dif_pos h]
theorem enc_big {n : Nat} (h : ¬ n ≤ 127) : enc n = ((128 + n % 128 : Nat) : Int) :: enc (n / 128) := by rw [enc, dif_neg h]
theorem enc_len : ∀ (L n : Nat), n < 128 ^ (L + 1) → (enc n).length ≤ L + 1
  | 0, n, h => by
    have : n ≤ 127 := by simp at h; omega
    rw [enc_small this]
    simp
  | L + 1, n, h => by
    by_cases c : n ≤ 127
    · rw [enc_small c]
      simp
    · rw [enc_big c, List.length_cons]
      have := enc_len L (n / 128) (by rw [Nat.pow_succ] at h; exact (Nat.div_lt_iff_lt_mul (by decide)).mpr h)
      omega
theorem enc_lim {n : Nat} (h : n < Lim) : (enc n).length ≤ 500 := enc_len 499 n h
theorem enc_pos (n : Nat) : 0 < (enc n).length := by
  by_cases c : n ≤ 127
  · rw [enc_small c]; simp
  · rw [enc_big c, List.length_cons]; omega
theorem enc_bytes : ∀ n : Nat, Bytes (enc n) := by
  intro n
  induction n using Nat.strongRecOn with
  | ind n ih =>
    intro b hb
    by_cases c : n ≤ 127
    · rw [enc_small c, List.mem_singleton] at hb
      omega
    · rw [enc_big c] at hb
      rcases List.mem_cons.mp hb with e | hb
      · omega
      · exact ih (n / 128) (by omega) b hb
/-- what a row holds from its begin on -/
inductive Rd where
  | num (n : Int) (len : Nat)
  | trunc
  | malf
def rdGo : Nat → Nat → Int → List Int → Rd
  | 0, _, _, _ => .malf
  | _ + 1, _, _, [] => .trunc
  | f + 1, c, acc, b :: bs => if b < 128 then (if b = 0 ∧ 0 < c then .malf else .num (acc + b * 128 ^ c) (c + 1)) else rdGo f (c + 1) (acc + (b - 128) * 128 ^ c) bs
def rd (bs : List Int) : Rd := rdGo 500 0 0 bs
theorem rd_enc : ∀ (n : Nat) (f c : Nat) (acc : Int) (rest : List Int), (enc n).length ≤ f → (c = 0 ∨ n ≠ 0) → rdGo f c acc (enc n ++ rest) = .num (acc + n * 128 ^ c) (c + (enc n).length) := by
  intro n
  induction n using Nat.strongRecOn with
  | ind n ih =>
    intro f c acc rest hl hc
    by_cases h : n ≤ 127
    · rw [enc_small h] at hl ⊢
      obtain ⟨f, rfl⟩ : ∃ g, f = g + 1 := ⟨f - 1, by simp at hl; omega⟩
      show (if (n : Int) < 128 then (if (n : Int) = 0 ∧ 0 < c then Rd.malf else .num (acc + n * 128 ^ c) (c + 1)) else _) = _
      rw [if_pos (by omega), if_neg (by omega)]
      rfl
    · rw [enc_big h] at hl ⊢
      obtain ⟨f, rfl⟩ : ∃ g, f = g + 1 := ⟨f - 1, by simp at hl; omega⟩
      show (if ((128 + n % 128 : Nat) : Int) < 128 then _ else rdGo f (c + 1) (acc + (((128 + n % 128 : Nat) : Int) - 128) * 128 ^ c) (enc (n / 128) ++ rest)) = _
      rw [if_neg (by omega), ih (n / 128) (by omega) f (c + 1) _ rest (by simp at hl; omega) (.inr (by omega)), List.length_cons]
      have e : ((n : Int)) = ((n / 128 : Nat) : Int) * 128 + ((n % 128 : Nat) : Int) := by omega
      have e1 : (((128 + n % 128 : Nat) : Int) - 128) = ((n % 128 : Nat) : Int) := by omega
      rw [e1]
      congr 1
      · rw [Int.pow_succ, Int.mul_comm (128 ^ c) 128, ← Int.mul_assoc, Int.add_assoc, ← Int.add_mul]
        congr 2
        omega
      · omega
def sp_take (K : PySem.W.Frag) (cT cM : Addr) : Sp := fun vs H Q E => ∃ (a : Addr) (bs : List Int) (i : Nat), vs = [.ref a, .int (i : Int)] ∧ SqL K H a (bs.map V.int) ∧ Bytes bs ∧ i ≤ bs.length ∧ bs.length ≤ 90000 ∧
  (∀ n c, rd (bs.drop i) = .num n c → ∀ p H', H p = none → Same H H' → H' p = some (.tup [.int n, .int ((i + c : Nat) : Int)]) → Q (.ref p) H') ∧ (rd (bs.drop i) = .trunc → E (.ref cT) none H) ∧ (rd (bs.drop i) = .malf → E (.ref cM) none H)
theorem pow128 (t : Nat) : (2 : Int) ^ (7 * t) = 128 ^ t := by rw [Int.pow_mul]; rfl
theorem and127 : V.int 127 = V.int (2 ^ 7 - 1) := by congr 1
section
variable {P : Program} {w : World} {K : PySem.W.Frag} {mg : Str → Option Value} {base : Heap}
theorem ok_take_number (T : TX K mg) : FnOk P w K mg base (L2.CX P w) 1 T.a_take_number T.d_take_number ["row", "index"] (sp_take K T.a_Truncated T.a_Malformed) := by
  refine T.F_take_number.okX sc_take_number (fun vs H Q E h => ?_) (fun cdv A outer s H vs Q E hr h => ?_)
  · obtain ⟨a, bs, i, rfl, _⟩ := h
    rfl
  · obtain ⟨a, bs, i, rfl, hS, hb, hi, hlen, q, qT, qM⟩ := h
    refine ⟨_, (pss_cons (ps_set (i := 2) sc_take_number.nd rfl (Or.inl rfl) pe_int)
      (pss_cons (ps_set (i := 3) sc_take_number.nd rfl (Or.inl rfl) pe_int)
      (pss_cons (ps_for (passes_of rfl) rfl (pi_range2 (by rfl) T.n_range (pa_cons (pv 1) (pa_cons (pe_callB (call_min2 rfl) (by rfl) T.n_min (by decide +kernel) (pa_cons (pe_callB call_len_seq (by rfl) T.n_len PySem.boot_len (pa_cons (pv 0) pa_nil)) (pa_cons (pe_op op_add (pv 1) (pe_glob (v := .int 500) (by rfl) T.c_MOST_BYTES ⟨_, rfl⟩)) pa_nil))) pa_nil))) (pg_name (i := 4) sc_take_number.nd rfl (Or.inl rfl))
        (pss_cons (ps_set (i := 5) sc_take_number.nd rfl (Or.inl rfl) (pe_ix ix_list (pv 0) (pv 4) (fun _ _ => rfl)))
        (pss_cons (ps_aug (i := 2) sc_take_number.nd rfl (Or.inl rfl) (pe_op op_shlN (pe_op op_andM (pv 5) pe_int) (pv 3)) ip_or)
        (pss_cons (ps_aug (i := 3) sc_take_number.nd rfl (Or.inl rfl) pe_int ip_add)
        (pss_one (ps_if (pt_cmpR op_lt (pv 5) pe_int (nomark _)) (pss_cons (ps_if (PW.pt (pw_and (pt_cmpR op_eq (pv 5) pe_int (nomark _)) (pw_and1 (pt_cmpR op_gt (pv 4) (pv 1) (nomark _))))) (pss_one (ps_raise rfl (takes_of rfl rfl rfl rfl) (pmk_own PySem.F.excBase_ValueError T.x_Malformed T.g_Malformed T.k_Malformed (raises_own T.s_Malformed T.t_Malformed) rfl))) pss_nil)
          (pss_one (ps_ret (pe_tup (pa_cons (pv 2) (pa_cons (pe_op op_add (pv 4) pe_int) pa_nil)))))) pss_nil))))))
      (pss_cons (ps_if (pt_cmpR op_ge (pe_op op_sub (pe_callB call_len_seq (by rfl) T.n_len PySem.boot_len (pa_cons (pv 0) pa_nil)) (pv 1)) (pe_glob (v := .int 500) (by rfl) T.c_MOST_BYTES ⟨_, rfl⟩) (nomark _)) (pss_one (ps_raise rfl (takes_of rfl rfl rfl rfl) (pmk_own PySem.F.excBase_ValueError T.x_Malformed T.g_Malformed T.k_Malformed (raises_own T.s_Malformed T.t_Malformed) rfl))) pss_nil)
      (pss_one (ps_raise rfl (takes_of rfl rfl rfl rfl) (pmk_own PySem.F.excBase_ValueError T.x_Truncated T.g_Truncated T.k_Truncated (raises_own T.s_Truncated T.t_Truncated) rfl))))))), ?_⟩
    have hml : (bs.map V.int).length = bs.length := List.length_map _
    refine ⟨_, rfl, _, rfl, a, _, rfl, .inl hS, _, rfl, _, _, rfl, rfl, _, _, rfl, ?_⟩
    obtain ⟨m, hm, hmi⟩ : ∃ m : Nat, (if (i : Int) + 500 < (bs.length : Int) then (i : Int) + 500 else (bs.length : Int)) = ((i + m : Nat) : Int) ∧ m = min (bs.length - i) 500 := by
      refine ⟨min (bs.length - i) 500, ?_, rfl⟩
      split <;> omega
    refine ⟨(i : Int), ((i + m : Nat) : Int), ?_, ⟨by omega, by omega, by omega, by omega⟩, for_range (lo := (i : Int)) (n := _) (fun t σ H' => H = H' ∧ ∃ (x4 x5 : Option V) (acc : Int), σ = [some (.ref a), some (.int (i : Int)), some (.int acc), some (.int ((7 * t : Nat) : Int)), x4, x5] ∧ 0 ≤ acc ∧ acc < 2 ^ (7 * t) ∧ rd (bs.drop i) = rdGo (500 - t) t acc (bs.drop (i + t)))
      ?_ ?_ ?_⟩
    · try dsimp only
      rw [hml, hm]
    · exact ⟨rfl, none, none, 0, rfl, by decide, by decide, rfl⟩
    · rintro t σ _ ht ⟨rfl, x4, x5, acc, rfl, h0, h1, hrd⟩
      have ht' : t < m := by omega
      have hlt : i + t < bs.length := by omega
      have hg : bs[i + t]? = some bs[i + t] := List.getElem?_eq_getElem hlt
      have hbb := hb _ (List.getElem_mem hlt)
      have hdr : bs.drop (i + t) = bs[i + t] :: bs.drop (i + (t + 1)) := List.drop_eq_getElem_cons hlt
      have ga : atI (bs.map V.int) ((i : Int) + (t : Int)) = some (.int bs[i + t]) := by
        have := at_map (f := V.int) hg
        rwa [Int.natCast_add] at this
      rw [hdr, show 500 - t = (499 - t) + 1 by omega] at hrd
      generalize bs[i + t] = b at hg hbb hrd ga hdr
      have hp : (0 : Int) < 2 ^ (7 * t) := Int.pow_pos (by decide)
      refine ⟨_, rfl, _, rfl, a, _, _, .int b, rfl, rfl, hS, ga, ?_⟩
      refine ⟨_, rfl, _, rfl, b, 7, rfl, and127, _, rfl, b % 2 ^ 7, 7 * t, rfl, rfl, ⟨by omega, ?_⟩, acc, b % 2 ^ 7, 7 * t, rfl, rfl, ⟨by omega, h0, h1⟩, ?_⟩
      · obtain ⟨k, hk⟩ : ∃ k : Nat, b % 2 ^ 7 = (k : Int) := ⟨(b % 2 ^ 7).toNat, by omega⟩
        rw [hk]
        have := bits_small k (by omega)
        omega
      refine ⟨_, rfl, _, _, rfl, rfl, ?_⟩
      refine ⟨_, rfl, _, _, rfl, rfl, _, rfl, ifd (fun hc => ?_) (fun hc => ?_)⟩
      · have eb : b % 2 ^ 7 = b := by omega
        have hgo : rdGo ((499 - t) + 1) t acc (b :: bs.drop (i + (t + 1))) = if b = 0 ∧ 0 < t then .malf else .num (acc + b * 128 ^ t) (t + 1) := by
          show (if b < 128 then _ else _) = _
          rw [if_pos hc]
        rw [hgo] at hrd
        refine ⟨_, rfl, rfl, _, rfl, ifd (fun hz => ?_) (fun hz => ?_)⟩
        · have hz' : b = 0 := V.int.inj hz
          refine ⟨_, rfl, _, rfl, _, _, rfl, rfl, _, rfl, ifd (fun hq => ?_) (fun hq => ?_)⟩
          · rw [if_pos ⟨hz', by omega⟩] at hrd
            exact qM hrd
          · rw [if_neg (by omega)] at hrd
            refine ⟨_, rfl, _, rfl, _, _, rfl, rfl, (by show 2 ≤ sizeLine; decide), fun p hp => q _ _ hrd p _ hp (same_upd hp) ?_⟩
            rw [upd_same, eb, pow128]
            congr 6
        · rw [if_neg (fun z => hz (by rw [z.1]))] at hrd
          refine ⟨_, rfl, _, rfl, _, _, rfl, rfl, (by show 2 ≤ sizeLine; decide), fun p hp => q _ _ hrd p _ hp (same_upd hp) ?_⟩
          rw [upd_same, eb, pow128]
          congr 6
      · have eb : b % 2 ^ 7 = b - 128 := by omega
        have hgo : rdGo ((499 - t) + 1) t acc (b :: bs.drop (i + (t + 1))) = rdGo (499 - t) (t + 1) (acc + (b - 128) * 128 ^ t) (bs.drop (i + (t + 1))) := by
          show (if b < 128 then _ else _) = _
          rw [if_neg hc]
        rw [hgo] at hrd
        refine ⟨rfl, some (.int ((i : Int) + (t : Int))), some (.int b), acc + (b - 128) * 2 ^ (7 * t), ?_, ?_, ?_, ?_⟩
        · rw [eb]
          have : ((7 * t : Nat) : Int) + 7 = ((7 * (t + 1) : Nat) : Int) := by omega
          show [_, _, _, some (V.int (((7 * t : Nat) : Int) + 7)), _, _] = _
          rw [this]
        · have := Int.mul_nonneg (show (0 : Int) ≤ b - 128 by omega) (Int.le_of_lt hp)
          omega
        · have e1 : (2 : Int) ^ (7 * (t + 1)) = 128 * 2 ^ (7 * t) := by rw [pow128, pow128, Int.pow_succ, Int.mul_comm]
          have e2 : (b - 128) * 2 ^ (7 * t) ≤ 127 * 2 ^ (7 * t) := Int.mul_le_mul_of_nonneg_right (by omega) (Int.le_of_lt hp)
          rw [e1]
          omega
        · rw [pow128, show 500 - (t + 1) = 499 - t by omega]
          exact hrd
    · rintro σ _ ⟨rfl, x4, x5, acc, rfl, h0, h1, hrd⟩
      have hn : (((i + m : Nat) : Int) - (i : Int)).toNat = m := by omega
      rw [hn] at hrd
      refine ⟨_, rfl, a, _, rfl, .inl hS, _, rfl, _, _, rfl, rfl, _, _, rfl, rfl, _, rfl, ifd (fun hc => ?_) (fun hc => ?_)⟩
      · rw [hml] at hc
        have : m = 500 := by omega
        subst this
        exact qM hrd
      · rw [hml] at hc
        have h2 : bs.drop (i + m) = [] := List.drop_of_length_le (by omega)
        rw [h2, show 500 - m = (499 - m) + 1 by omega] at hrd
        exact qT hrd
end
def resD (r : Rd) (i : Nat) : PyData := match r with
  | .num n c => .tuple [.str "number", .int n, .int ((i + c : Nat) : Int)]
  | .trunc => .tuple [.str "truncated"]
  | .malf => .tuple [.str "malformed"]
theorem resD_sh (r : Rd) (i : Nat) : SeqAt.shaped (resD r i) = true := by
  refine Flat.sh (n := 1) ?_ (by decide)
  cases r with
  | num n c =>
    refine flat_tup (n := 0) fun d hd => ?_
    simp only [List.mem_cons, List.not_mem_nil, or_false] at hd
    rcases hd with rfl | rfl | rfl
    · exact flat_str 0 "number"
    · exact flat_int 0 _
    · exact flat_int 0 _
  | trunc => exact flat_tup (n := 0) fun d hd => by rw [List.mem_singleton] at hd; rw [hd]; exact flat_str 0 "truncated"
  | malf => exact flat_tup (n := 0) fun d hd => by rw [List.mem_singleton] at hd; rw [hd]; exact flat_str 0 "malformed"
def sp_expected (K : PySem.W.Frag) : Sp := fun vs H Q _ => ∃ (a : Addr) (bs : List Int) (i : Nat), vs = [.ref a, .int (i : Int)] ∧ SqL K H a (bs.map V.int) ∧ Bytes bs ∧ bs.length ≤ 90000 ∧
  ∀ (p : Addr) (H' : Hp), Same H H' → Dp K H' (.ref p) (resD (rd (bs.drop i)) i) → Q (.ref p) H'
def sp_actual (K : PySem.W.Frag) : Sp := fun vs H Q _ => ∃ (a : Addr) (bs : List Int) (i : Nat), vs = [.ref a, .int (i : Int)] ∧ SqL K H a (bs.map V.int) ∧ Bytes bs ∧ i ≤ bs.length ∧ bs.length ≤ 90000 ∧
  ∀ (p : Addr) (H' : Hp), Same H H' → Dp K H' (.ref p) (resD (rd (bs.drop i)) i) → Q (.ref p) H'
section
variable {P : Program} {w : World} {K : PySem.W.Frag} {mg : Str → Option Value} {base : Heap}
theorem ok__law_expected (T : TX K mg) : FnOk P w K mg base CX0 1 T.a__law_expected T.d__law_expected ["row", "index"] (sp_expected K) := by
  refine T.F__law_expected.ok sc__law_expected (fun vs H Q E h => ?_) (fun cdv A outer s H vs Q E hr h => ?_)
  · obtain ⟨a, bs, i, rfl, _⟩ := h
    rfl
  · obtain ⟨a, bs, i, rfl, hS, hb, hlen, q⟩ := h
    refine ⟨_, (pss_cons (ps_set (i := 2) sc__law_expected.nd rfl (Or.inl rfl) pe_int)
      (pss_cons (ps_set (i := 3) sc__law_expected.nd rfl (Or.inl rfl) pe_int)
      (pss_cons (ps_for PassesOwn.never rfl (pi_range1 (by rfl) T.n_range (pa_cons pe_int pa_nil)) (pg_name (i := 4) sc__law_expected.nd rfl (Or.inl rfl))
        (pss_cons (ps_if (pt_cmpR op_ge (pe_op op_add (pv 1) (pv 4)) (pe_callB call_len_seq (by rfl) T.n_len PySem.boot_len (pa_cons (pv 0) pa_nil)) (nomark _)) (pss_one (ps_ret (pe_tup (pa_cons pe_str pa_nil)))) pss_nil)
        (pss_cons (ps_set (i := 5) sc__law_expected.nd rfl (Or.inl rfl) (pe_ix ix_list (pv 0) (pe_op op_add (pv 1) (pv 4)) (fun _ _ => rfl)))
        (pss_cons (ps_if (pt_cmpR op_lt (pv 5) pe_int (nomark _)) (pss_cons (ps_if (PW.pt (pw_and (pt_cmpR op_eq (pv 5) pe_int (nomark _)) (pw_and1 (pt_cmpR op_gt (pv 4) pe_int (nomark _))))) (pss_one (ps_ret (pe_tup (pa_cons pe_str pa_nil)))) pss_nil)
          (pss_one (ps_ret (pe_tup (pa_cons pe_str (pa_cons (pe_op op_add (pv 2) (pe_op op_mul (pv 5) (pv 3))) (pa_cons (pe_op op_add (pe_op op_add (pv 1) (pv 4)) pe_int) pa_nil))))))) pss_nil)
        (pss_cons (ps_set (i := 2) sc__law_expected.nd rfl (Or.inl rfl) (pe_op op_add (pv 2) (pe_op op_mul (pe_op op_sub (pv 5) pe_int) (pv 3))))
        (pss_one (ps_set (i := 3) sc__law_expected.nd rfl (Or.inl rfl) (pe_op op_mul (pv 3) pe_int))))))))
      (pss_one (ps_ret (pe_tup (pa_cons pe_str pa_nil))))))), ?_⟩
    have hml : (bs.map V.int).length = bs.length := List.length_map _
    refine ⟨500, rfl, by decide, by decide, for_range (lo := 0) (n := 500) (fun t σ G => H = G ∧ ∃ (acc : Int) (x4 x5 : Option V), σ = [some (.ref a), some (.int (i : Int)), some (.int acc), some (.int (128 ^ t)), x4, x5] ∧ rd (bs.drop i) = rdGo (500 - t) t acc (bs.drop (i + t)))
      ⟨rfl, 0, none, none, rfl, rfl⟩ ?_ ?_⟩
    · rintro t σ _ ht ⟨rfl, acc, x4, x5, rfl, hrd⟩
      refine ⟨_, rfl, _, rfl, _, _, rfl, rfl, _, rfl, a, _, rfl, .inl hS, _, _, rfl, rfl, _, rfl, ifd (fun hc => ?_) (fun hc => ?_)⟩
      · rw [hml] at hc
        refine ⟨(by show 1 ≤ sizeLine; decide), fun p hp => q p _ (same_upd hp) ?_⟩
        have h2 : bs.drop (i + t) = [] := List.drop_of_length_le (by omega)
        rw [h2, show 500 - t = (499 - t) + 1 by omega] at hrd
        have e : rd (bs.drop i) = .trunc := hrd
        rw [e]
        exact .tup (sqt upd_same) (.cons (.str _) .nil)
      · rw [hml] at hc
        have hlt : i + t < bs.length := by omega
        have hg : bs[i + t]? = some bs[i + t] := List.getElem?_eq_getElem hlt
        have hbb := hb _ (List.getElem_mem hlt)
        have hdr : bs.drop (i + t) = bs[i + t] :: bs.drop (i + (t + 1)) := List.drop_eq_getElem_cons hlt
        have ga : atI (bs.map V.int) ((i : Int) + (0 + (t : Int))) = some (.int bs[i + t]) := by
          have := at_map (f := V.int) hg
          rwa [show (((i + t : Nat)) : Int) = (i : Int) + (0 + (t : Int)) by omega] at this
        rw [hdr, show 500 - t = (499 - t) + 1 by omega] at hrd
        generalize bs[i + t] = b at hg hbb hrd ga hdr
        refine ⟨_, rfl, _, rfl, _, rfl, _, _, rfl, rfl, a, _, _, .int b, rfl, rfl, hS, ga, ?_⟩
        refine ⟨_, rfl, _, _, rfl, rfl, _, rfl, ifd (fun hc => ?_) (fun hc => ?_)⟩
        · have hgo : rdGo ((499 - t) + 1) t acc (b :: bs.drop (i + (t + 1))) = if b = 0 ∧ 0 < t then .malf else .num (acc + b * 128 ^ t) (t + 1) := by
            show (if b < 128 then _ else _) = _
            rw [if_pos hc]
          rw [hgo] at hrd
          have num : ¬ (b = 0 ∧ 0 < t) → ∀ σ' : L2.St, σ' = [some (.ref a), some (.int (i : Int)), some (.int acc), some (.int (128 ^ t)), some (.int (0 + (t : Int))), some (.int b)] → tRet (tTup (tCons (tC (.str "number")) (tCons (tOp (rI0 fun i j => V.int (i + j)) (tVar 2) (tOp (rI CMul fun i j => V.int (i * j)) (tVar 5) (tVar 3))) (tCons (tOp (rI0 fun i j => V.int (i + j)) (tOp (rI0 fun i j => V.int (i + j)) (tVar 1) (tVar 4)) (tC (.int 1))) tNil)))) { nx := fun x H' => Q .non H', rt := Q } σ' H := by
            rintro hn _ rfl
            refine ⟨_, rfl, _, rfl, _, rfl, _, _, rfl, rfl, .inl ⟨by omega, by omega⟩, _, _, rfl, rfl, _, rfl, _, rfl, _, _, rfl, rfl, _, _, rfl, rfl, (by show 3 ≤ sizeLine; decide), fun p hp => q p _ (same_upd hp) ?_⟩
            rw [if_neg hn] at hrd
            rw [hrd]
            refine .tup (sqt upd_same) (.cons (.str _) (.cons (.int _) (.cons ?_ .nil)))
            have : (i : Int) + (0 + (t : Int)) + 1 = ((i + (t + 1) : Nat) : Int) := by omega
            rw [← this]
            exact .int _
          refine ⟨_, rfl, rfl, _, rfl, ifd (fun hz => ?_) (fun hz => ?_)⟩
          · have hz' : b = 0 := V.int.inj hz
            refine ⟨_, rfl, _, _, rfl, rfl, _, rfl, ifd (fun hq => ?_) (fun hq => ?_)⟩
            · rw [if_pos ⟨hz', by omega⟩] at hrd
              refine ⟨(by show 1 ≤ sizeLine; decide), fun p hp => q p _ (same_upd hp) ?_⟩
              rw [hrd]
              exact .tup (sqt upd_same) (.cons (.str _) .nil)
            · exact num (by omega) _ rfl
          · exact num (fun z => hz (by rw [z.1])) _ rfl
        · have hgo : rdGo ((499 - t) + 1) t acc (b :: bs.drop (i + (t + 1))) = rdGo (499 - t) (t + 1) (acc + (b - 128) * 128 ^ t) (bs.drop (i + (t + 1))) := by
            show (if b < 128 then _ else _) = _
            rw [if_neg hc]
          rw [hgo] at hrd
          refine ⟨_, rfl, _, rfl, _, _, rfl, rfl, _, rfl, _, _, rfl, rfl, .inl ⟨by omega, by omega⟩, _, _, rfl, rfl, ?_⟩
          refine ⟨_, rfl, _, _, rfl, rfl, .inr ⟨by decide, by decide⟩, ?_⟩
          exact ⟨rfl, _, _, _, rfl, by rw [show 500 - (t + 1) = 499 - t by omega]; exact hrd⟩
    · rintro σ _ ⟨rfl, acc, x4, x5, rfl, hrd⟩
      refine ⟨(by show 1 ≤ sizeLine; decide), fun p hp => q p _ (same_upd hp) ?_⟩
      have e : rd (bs.drop i) = .malf := hrd
      rw [e]
      exact .tup (sqt upd_same) (.cons (.str _) .nil)
theorem ok__law_actual (T : TX K mg) : FnOk P w K mg base CX0 2 T.a__law_actual T.d__law_actual ["row", "index"] (sp_actual K) := by
  refine T.F__law_actual.ok sc__law_actual (fun vs H Q E h => ?_) (fun cdv A outer s H vs Q E hr h => ?_)
  · obtain ⟨a, bs, i, rfl, _⟩ := h
    rfl
  · obtain ⟨a, bs, i, rfl, hS, hb, hi, hlen, q⟩ := h
    refine ⟨_, (pss_cons (ps_set (i := 2) sc__law_actual.nd rfl (Or.inl rfl) (pe_callTy call_list_of (by rfl) T.n_list (by decide +kernel) (pa_cons (pv 0) pa_nil)))
      (pss_cons (ps_try_cl rfl rfl sc__law_actual.nd takes0 (fun W pn xe tk po => (pss_one (ps_set (i := 3) sc__law_actual.nd rfl (Or.inl rfl) (pe_callS (ok_take_number T) (hr.mono (by decide)) (by rfl) T.g_take_number T.F_take_number.kp T.b_take_number (fun σ => passAt tk σ) (pa_cons (pv 2) (pa_cons (pv 1) pa_nil)))))) (.cons (i := 4) rfl rfl ⟨rfl, by decide, .inl T.g_Truncated⟩ (fun a oe cls d pn hz hf => (pss_cons (ps_if (PW.pt (pw_or (pt_not (pt_val (pe_callB (call_isE1 T.X_Truncated hz hf) (by rfl) T.n_isinstance (by decide +kernel) (pa_cons (pv 4) (pa_cons (pe_glob (v := .ref T.a_CodecError) (by rfl) T.g_CodecError rfl) pa_nil))))) (pw_or (pt_not (pt_val (pe_callB (call_isE1 T.X_Truncated hz hf) (by rfl) T.n_isinstance (by decide +kernel) (pa_cons (pv 4) (pa_cons (pe_glob (v := .ref T.a_MajordomoError) (by rfl) T.g_MajordomoError rfl) pa_nil))))) (pw_or1 (pt_not (pt_val (pe_callB (call_isE1 T.X_Truncated hz hf) (by rfl) T.n_isinstance (by decide +kernel) (pa_cons (pv 4) (pa_cons (pe_bltn (v := .ty "ValueError") (u := .type "ValueError") (by rfl) T.n_ValueError (by decide +kernel) rfl) pa_nil))))))))) (pss_one (ps_ret (pe_tup (pa_cons pe_str pa_nil)))) pss_nil)
          (pss_cons (ps_if (PW.pt (pw_or (pt_val (pe_callB (call_isE1 T.X_Truncated hz hf) (by rfl) T.n_isinstance (by decide +kernel) (pa_cons (pv 4) (pa_cons (pe_glob (v := .ref T.a_Malformed) (by rfl) T.g_Malformed rfl) pa_nil)))) (pw_or (pt_val (pe_callB (call_isE1 T.X_Truncated hz hf) (by rfl) T.n_isinstance (by decide +kernel) (pa_cons (pv 4) (pa_cons (pe_glob (v := .ref T.a_Damaged) (by rfl) T.g_Damaged rfl) pa_nil)))) (pw_or (pt_val (pe_callB (call_isE1 T.X_Truncated hz hf) (by rfl) T.n_isinstance (by decide +kernel) (pa_cons (pv 4) (pa_cons (pe_glob (v := .ref T.a_NotAValue) (by rfl) T.g_NotAValue rfl) pa_nil)))) (pw_or1 (pt_val (pe_callB (call_isE1 T.X_Truncated hz hf) (by rfl) T.n_isinstance (by decide +kernel) (pa_cons (pv 4) (pa_cons (pe_glob (v := .ref T.a_StoreError) (by rfl) T.g_StoreError rfl) pa_nil))))))))) (pss_one (ps_ret (pe_tup (pa_cons pe_str pa_nil)))) pss_nil)
          (pss_one (ps_ret (pe_tup (pa_cons pe_str pa_nil))))))) (.cons (i := 4) rfl rfl ⟨rfl, by decide, .inl T.g_CodecError⟩ (fun a oe cls d pn hz hf => (pss_cons (ps_if (PW.pt (pw_or (pt_not (pt_val (pe_callB (call_isE1 T.X_Malformed hz hf) (by rfl) T.n_isinstance (by decide +kernel) (pa_cons (pv 4) (pa_cons (pe_glob (v := .ref T.a_Malformed) (by rfl) T.g_Malformed rfl) pa_nil))))) (pw_or (pt_val (pe_callB (call_isE1 T.X_Malformed hz hf) (by rfl) T.n_isinstance (by decide +kernel) (pa_cons (pv 4) (pa_cons (pe_glob (v := .ref T.a_Damaged) (by rfl) T.g_Damaged rfl) pa_nil)))) (pw_or1 (pt_val (pe_callB (call_isE1 T.X_Malformed hz hf) (by rfl) T.n_isinstance (by decide +kernel) (pa_cons (pv 4) (pa_cons (pe_glob (v := .ref T.a_NotAValue) (by rfl) T.g_NotAValue rfl) pa_nil)))))))) (pss_one (ps_ret (pe_tup (pa_cons pe_str pa_nil)))) pss_nil)
          (pss_one (ps_ret (pe_tup (pa_cons pe_str pa_nil)))))) .nil)))
      (pss_cons (ps_if (PW.pt (pw_or (pt_not (pt_val (pe_callB call_isi (by rfl) T.n_isinstance (by decide +kernel) (pa_cons (pv 3) (pa_cons (pe_bltn (v := .ty "tuple") (u := .type "tuple") (by rfl) T.n_tuple (by decide +kernel) rfl) pa_nil))))) (pw_or (pt_cmpR op_ne (pe_callB call_len_seq (by rfl) T.n_len PySem.boot_len (pa_cons (pv 3) pa_nil)) pe_int (nomark _)) (pw_or1 (pt_cmpR (op_neD hr.units) (pv 2) (pv 0) (nomark _)))))) (pss_one (ps_ret (pe_tup (pa_cons pe_str pa_nil)))) pss_nil)
      (pss_cons (ps_if (PW.pt (pw_or (pt_not (pt_val (pe_call (ok__law_is_integer T) (hr.mono (by decide)) (by rfl) T.g__law_is_integer T.F__law_is_integer.kp T.b__law_is_integer .nil pass0 (pa_cons (pe_ix ix_tup (pv 3) pe_int (fun _ _ => rfl)) pa_nil)))) (pw_or1 (pt_not (pt_val (pe_call (ok__law_is_integer T) (hr.mono (by decide)) (by rfl) T.g__law_is_integer T.F__law_is_integer.kp T.b__law_is_integer .nil pass0 (pa_cons (pe_ix ix_tup (pv 3) pe_int (fun _ _ => rfl)) pa_nil))))))) (pss_one (ps_ret (pe_tup (pa_cons pe_str pa_nil)))) pss_nil)
      (pss_one (ps_ret (pe_tup (pa_cons pe_str (pa_cons (pe_ix ix_tup (pv 3) pe_int (fun _ _ => rfl)) (pa_cons (pe_ix ix_tup (pv 3) pe_int (fun _ _ => rfl)) pa_nil)))))))))), ?_⟩
    refine ⟨_, rfl, a, _, rfl, .inl hS, fun l hl => ?_⟩
    have s1 := same_upd (o := .lst (bs.map V.int)) hl
    have el : (upd H l (.lst (bs.map V.int))) l = some (.lst (bs.map V.int)) := upd_same
    generalize upd H l (.lst (bs.map V.int)) = H1 at s1 el
    refine ⟨_, rfl, _, rfl, l, bs, i, rfl, sql el, hb, hi, hlen, ?_, ?_, ?_⟩
    · intro n c hrd p H2 hp s2 ep
      have hsh := eqv_self ((flat_ints bs).sh (by decide))
      dsimp only [gName, tNext, tSeq, tIfS]
      refine or_use (x := false) (y := false) (fun R r => ⟨.ref p, rfl, .ref p, .ty "tuple", .type "tuple", .type "tuple", true, rfl, .ty _, tyx_t (sqt ep), kit_ty (by decide +kernel), true, rfl, r⟩) (fun R r => or_use (x := false) (y := false) (fun R r => ⟨.ref p, rfl, p, _, rfl, .inr (sqt ep), rfl, _, rfl, r⟩)
        (fun R r => ⟨_, rfl, _, rfl, _, _, dp_ints (sql (s2 _ _ el)), dp_ints ((s1.trans s2).seq hS), (flat_ints bs).sh (by decide), (flat_ints bs).sh (by decide), !true, by rw [hsh], r⟩) r) ?_
      refine ifbf rfl ?_
      refine or_use (x := false) (y := false) (fun R r => ⟨.ref p, rfl, p, _, 0, .int n, rfl, rfl, sqt ep, rfl, n, rfl, true, rfl, r⟩) (fun R r => ⟨.ref p, rfl, p, _, 1, .int _, rfl, rfl, sqt ep, rfl, _, rfl, true, rfl, r⟩) ?_
      refine ifbf rfl ?_
      refine ⟨.ref p, rfl, p, _, 0, .int n, rfl, rfl, sqt ep, rfl, .ref p, rfl, p, _, 1, .int _, rfl, rfl, sqt ep, rfl, (by show 3 ≤ sizeLine; decide), fun u hu => q u _ ((s1.trans s2).trans (same_upd hu)) ?_⟩
      rw [hrd]
      exact .tup (sqt upd_same) (.cons (.str _) (.cons (.int _) (.cons (.int _) .nil)))
    · intro hrd
      refine ⟨true, T.em_Truncated_Truncated, fun _ a' ha' => ?_, fun z => Bool.noConfusion z⟩
      dsimp only [tNext, tSeq, tIfS]
      refine or_use (x := false) (y := false) (fun R r => ⟨_, rfl, rfl, rfl, _, _, true, rfl, (fun _ r => r), T.y_Truncated_CodecError, true, rfl, r⟩) (fun R r => or_use (x := false) (y := false) (fun R r => ⟨_, rfl, rfl, rfl, _, _, true, rfl, (fun _ r => r), T.y_Truncated_MajordomoError, true, rfl, r⟩)
        (fun R r => ⟨_, rfl, rfl, rfl, _, _, true, rfl, (fun _ r => r), T.y_Truncated_ValueError, true, rfl, r⟩) r) ?_
      refine ifbf rfl ?_
      refine or_use (x := false) (y := false) (fun R r => ⟨_, rfl, rfl, rfl, _, _, false, rfl, (fun _ r => r), T.y_Truncated_Malformed, false, rfl, r⟩) (fun R r => or_use (x := false) (y := false) (fun R r => ⟨_, rfl, rfl, rfl, _, _, false, rfl, (fun _ r => r), T.y_Truncated_Damaged, false, rfl, r⟩)
        (fun R r => or_use (x := false) (y := false) (fun R r => ⟨_, rfl, rfl, rfl, _, _, false, rfl, (fun _ r => r), T.y_Truncated_NotAValue, false, rfl, r⟩) (fun R r => ⟨_, rfl, rfl, rfl, _, _, false, rfl, (fun _ r => r), T.y_Truncated_StoreError, false, rfl, r⟩) r) r) ?_
      refine ifbf rfl ⟨(by show 1 ≤ sizeLine; decide), fun u hu => q u _ (s1.trans (same_upd hu)) ?_⟩
      rw [hrd]
      exact .tup (sqt upd_same) (.cons (.str _) .nil)
    · intro hrd
      refine ⟨false, T.em_Truncated_Malformed, (fun z => Bool.noConfusion z), fun _ => ⟨true, T.em_CodecError_Malformed, fun _ a' ha' => ?_, fun z => Bool.noConfusion z⟩⟩
      dsimp only [tNext, tSeq, tIfS]
      refine or_use (x := false) (y := false) (fun R r => ⟨_, rfl, rfl, rfl, _, _, true, rfl, (fun _ r => r), T.y_Malformed_Malformed, true, rfl, r⟩) (fun R r => or_use (x := false) (y := false) (fun R r => ⟨_, rfl, rfl, rfl, _, _, false, rfl, (fun _ r => r), T.y_Malformed_Damaged, false, rfl, r⟩)
        (fun R r => ⟨_, rfl, rfl, rfl, _, _, false, rfl, (fun _ r => r), T.y_Malformed_NotAValue, false, rfl, r⟩) r) ?_
      refine ifbf rfl ⟨(by show 1 ≤ sizeLine; decide), fun u hu => q u _ (s1.trans (same_upd hu)) ?_⟩
      rw [hrd]
      exact .tup (sqt upd_same) (.cons (.str _) .nil)
def byteOf (d : Int) : Int := if d % 5 = 4 then 0 else if d % 5 = 3 then d % 128 else 128 + d % 128
theorem byteOf_b (d : Int) : 0 ≤ byteOf d ∧ byteOf d < 256 := by unfold byteOf; repeat' split <;> omega
def sp_byte : Sp := fun vs H Q _ => ∃ (d : Int), vs = [.int d] ∧ Q (.int (byteOf d)) H
theorem ok__law_byte (T : TX K mg) : FnOk P w K mg base CX0 1 T.a__law_byte T.d__law_byte ["draw"] sp_byte := by
  refine T.F__law_byte.ok sc__law_byte (fun vs H Q E h => ?_) (fun cdv A outer s H vs Q E hr h => ?_)
  · obtain ⟨d, rfl, _⟩ := h
    rfl
  · obtain ⟨d, rfl, q⟩ := h
    refine ⟨_, (pss_cons (ps_if (pt_cmpR op_eq (pe_op op_mod (pv 0) pe_int) pe_int (nomark _)) (pss_one (ps_ret pe_int)) pss_nil)
      (pss_cons (ps_if (pt_cmpR op_eq (pe_op op_mod (pv 0) pe_int) pe_int (nomark _)) (pss_one (ps_ret (pe_op op_mod (pe_callTy call_int1 (by rfl) T.n_int (by decide +kernel) (pa_cons (pv 0) pa_nil)) pe_int))) pss_nil)
      (pss_one (ps_ret (pe_op op_add pe_int (pe_op op_mod (pe_callTy call_int1 (by rfl) T.n_int (by decide +kernel) (pa_cons (pv 0) pa_nil)) pe_int)))))), ?_⟩
    unfold byteOf at q
    refine ⟨_, rfl, _, _, rfl, rfl, (by show (0 : Int) < _; decide), rfl, _, rfl, ifd (fun hc => ?_) (fun hc => ?_)⟩
    · rw [if_pos (V.int.inj hc)] at q
      exact q
    · rw [if_neg (fun z => hc (congrArg V.int z))] at q
      refine ⟨_, rfl, _, _, rfl, rfl, (by show (0 : Int) < _; decide), rfl, _, rfl, ifd (fun hc => ?_) (fun hc => ?_)⟩
      · rw [if_pos (V.int.inj hc)] at q
        exact ⟨_, rfl, .inl ⟨_, rfl, _, _, rfl, rfl, (by show (0 : Int) < _; decide), q⟩⟩
      · rw [if_neg (fun z => hc (congrArg V.int z))] at q
        exact ⟨_, rfl, .inl ⟨_, rfl, _, _, rfl, rfl, (by show (0 : Int) < _; decide), _, _, rfl, rfl, q⟩⟩
end
def sp_law (K : PySem.W.Frag) : Sp := fun vs H Q _ => ∃ (a : Addr) (ns : List Int), vs = [.ref a] ∧ SqL K H a (ns.map V.int) ∧ ns.length ≤ 63 ∧ ∀ H', Q (.bl true) H'
def bv (v : V) : V := match v with | .int i => .int (byteOf i) | u => u
theorem bv_map (zs : List Int) : (zs.map V.int).map bv = (zs.map byteOf).map V.int := by rw [List.map_map, List.map_map]; rfl
theorem bytes_map (zs : List Int) : Bytes (zs.map byteOf) := fun b hb => by
  obtain ⟨z, _, rfl⟩ := List.mem_map.mp hb
  exact byteOf_b z
section
variable {P : Program} {w : World} {K : PySem.W.Frag} {mg : Str → Option Value} {base : Heap}
theorem ok_law (T : TX K mg) : FnOk P w K mg base CX0 3 T.a_law T.d_law ["script"] (sp_law K) := by
  refine T.F_law.ok sc_law (fun vs H Q E h => ?_) (fun cdv A outer s H vs Q E hr h => ?_)
  · obtain ⟨a, ns, rfl, _⟩ := h
    rfl
  · obtain ⟨a, ns, rfl, hS, hlen, q⟩ := h
    refine ⟨_, (pss_cons (ps_set (i := 1) sc_law.nd rfl (Or.inl rfl) (pe_call (ok__law_draws T) (hr.mono (by decide)) (by rfl) T.g__law_draws T.F__law_draws.kp T.b__law_draws .nil pass0 (pa_cons (pv 0) (pa_cons pe_int pa_nil))))
      (pss_cons (ps_for PassesOwn.never rfl (pi_range1 (by rfl) T.n_range (pa_cons pe_int pa_nil)) (pg_name (i := 2) sc_law.nd rfl (Or.inl rfl))
        (pss_cons (ps_set (i := 3) sc_law.nd rfl (Or.inr rfl) (pe_slice sl_list (pv 1) (po_some (pe_op op_mul pe_int (pv 2))) (po_some (pe_op op_add (pe_op op_mul pe_int (pv 2)) pe_int))))
        (pss_cons (ps_setLc (i := 4) (own := [("draw", 6)]) (g := gName 6) (tt := tYes) (by rfl) sc_law.nd rfl rfl (sw_true rfl rfl rfl (by decide +kernel)) (pi_list (pe_slice sl_list (pv 3) (po_some pe_int) (po_some (pe_op op_add pe_int (pe_op op_mod (pe_ix ix_list (pv 3) pe_int (fun _ _ => rfl)) pe_int))))) (blkOk_by (own := [("draw", 6)]) (N := ["script", "draws", "k", "part", "row", "index", "draw", "at"]) (sc := defScope s_law) (by decide +kernel)) (fun _ _ _ _ _ => pg_name (i := 6) sc_law.nd rfl (Or.inl rfl)) (fun _ _ _ _ _ => pts_nil) (fun _ _ _ _ _ => (pe_call (ok__law_byte T) (hr.mono (by decide)) (by rfl) T.g__law_byte T.F__law_byte.kp T.b__law_byte .nil pass0 (pa_cons (pv 6) pa_nil))))
        (pss_one (ps_for PassesOwn.never rfl (pi_range1 (by rfl) T.n_range (pa_cons (pe_op op_add (pe_callB call_len_seq (by rfl) T.n_len PySem.boot_len (pa_cons (pv 4) pa_nil)) pe_int) pa_nil)) (pg_name (i := 5) sc_law.nd rfl (Or.inl rfl))
          (pss_one (ps_if (pt_cmpR (op_neD hr.units) (pe_call (ok__law_actual T) (hr.mono (by decide)) (by rfl) T.g__law_actual T.F__law_actual.kp T.b__law_actual .nil pass0 (pa_cons (pv 4) (pa_cons (pv 5) pa_nil))) (pe_call (ok__law_expected T) (hr.mono (by decide)) (by rfl) T.g__law_expected T.F__law_expected.kp T.b__law_expected .nil pass0 (pa_cons (pv 4) (pa_cons (pv 5) pa_nil))) (nomark _)) (pss_one (ps_ret pe_bl)) pss_nil)))))))
      (pss_cons (ps_for PassesOwn.never rfl (pi_range1 (by rfl) T.n_range (pa_cons pe_int pa_nil)) (pg_name (i := 2) sc_law.nd rfl (Or.inl rfl))
        (pss_cons (ps_set (i := 3) sc_law.nd rfl (Or.inr rfl) (pe_slice sl_list (pv 1) (po_some (pe_op op_mul pe_int (pv 2))) (po_some (pe_op op_add (pe_op op_mul pe_int (pv 2)) pe_int))))
        (pss_cons (ps_setLc (i := 4) (own := [("at", 7)]) (g := gName 7) (tt := tYes) (by rfl) sc_law.nd rfl rfl (sw_true rfl rfl rfl (by decide +kernel)) (pi_range1 (by rfl) T.n_range (pa_cons (pe_op op_add pe_int (pe_op op_mod (pe_ix ix_list (pv 3) pe_int (fun _ _ => rfl)) pe_int)) pa_nil)) (blkOk_by (own := [("at", 7)]) (N := ["script", "draws", "k", "part", "row", "index", "draw", "at"]) (sc := defScope s_law) (by decide +kernel)) (fun _ _ _ _ _ => pg_name (i := 7) sc_law.nd rfl (Or.inl rfl)) (fun _ _ _ _ _ => pts_nil) (fun _ _ _ _ _ => (pe_op op_add pe_int (pe_op op_mod (pe_callTy call_int1 (by rfl) T.n_int (by decide +kernel) (pa_cons (pe_op op_add (pe_ix (ixK_list (K := K) rfl) (pv 3) pe_int (fun _ _ => rfl)) (pv 7)) pa_nil)) pe_int))))
        (pss_cons (ps_set (i := 4) sc_law.nd rfl (Or.inl rfl) (pe_op op_cat (pv 4) (pe_lc (own := [("draw", 6)]) (g := gName 6) (tt := tYes) (by rfl) sc_law.nd (pi_list (pe_slice sl_list (pv 3) (po_some pe_int) (po_some (pe_op op_add pe_int (pe_op op_mod (pe_ix ix_list (pv 3) pe_int (fun _ _ => rfl)) pe_int))))) (blkOk_by (own := [("draw", 6)]) (N := ["script", "draws", "k", "part", "row", "index", "draw", "at"]) (sc := defScope s_law) (by decide +kernel)) (fun _ _ _ _ _ => pg_name (i := 6) sc_law.nd rfl (Or.inl rfl)) (fun _ _ _ _ _ => pts_nil) (fun _ _ _ _ _ => (pe_call (ok__law_byte T) (hr.mono (by decide)) (by rfl) T.g__law_byte T.F__law_byte.kp T.b__law_byte .nil pass0 (pa_cons (pv 6) pa_nil))))))
        (pss_one (ps_for PassesOwn.never rfl (pi_range1 (by rfl) T.n_range (pa_cons pe_int pa_nil)) (pg_name (i := 5) sc_law.nd rfl (Or.inl rfl))
          (pss_one (ps_if (pt_cmpR (op_neD hr.units) (pe_call (ok__law_actual T) (hr.mono (by decide)) (by rfl) T.g__law_actual T.F__law_actual.kp T.b__law_actual .nil pass0 (pa_cons (pv 4) (pa_cons (pv 5) pa_nil))) (pe_call (ok__law_expected T) (hr.mono (by decide)) (by rfl) T.g__law_expected T.F__law_expected.kp T.b__law_expected .nil pass0 (pa_cons (pv 4) (pa_cons (pv 5) pa_nil))) (nomark _)) (pss_one (ps_ret pe_bl)) pss_nil))))))))
      (pss_one (ps_ret pe_bl))))), ?_⟩
    refine ⟨_, rfl, a, ns, 240, rfl, hS, hlen, by decide, fun pd H1 ds _ s1 ed hd hdl => ?_⟩
    have gt : ∀ (l : List Int) {k : Nat} {d : Int}, l[k]? = some d → atI (l.map V.int) (k : Int) = some (.int d) := fun l _ _ h => at_map h
    refine ⟨12, rfl, by decide, by decide, for_range (lo := 0) (n := 12) (fun i σ G => ∃ x2 x3 x4 x5 x6, σ = [some (.ref a), some (.ref pd), x2, x3, x4, x5, x6, none] ∧ G pd = some (.lst (ds.map V.int))) ⟨none, none, none, none, none, rfl, ed⟩ ?_ ?_⟩
    · rintro i σ G hi ⟨x2, x3, x4, x5, x6, rfl, ed⟩
      have e20 : (20 : Int) * (0 + (i : Int)) = ((20 * i : Nat) : Int) := by omega
      have e40 : (20 : Int) * (0 + (i : Int)) + 20 = ((20 * i + 20 : Nat) : Int) := by omega
      refine ⟨_, rfl, _, rfl, _, _, rfl, rfl, .inl ⟨by decide, by decide⟩, _, rfl, _, rfl, _, _, rfl, rfl, .inl ⟨by decide, by decide⟩, _, _, rfl, rfl, _, rfl, pd, _, rfl, sql ed, fun pp hpp => ?_⟩
      dsimp only
      rw [cut_ints ds e20 e40]
      have s2 := same_upd (o := .lst (((ds.drop (20 * i)).take (20 * i + 20 - 20 * i)).map V.int)) hpp
      obtain ⟨part, hpart⟩ : ∃ part, part = (ds.drop (20 * i)).take (20 * i + 20 - 20 * i) := ⟨_, rfl⟩
      have hpl : part.length = 20 := by rw [hpart, List.length_take, List.length_drop]; omega
      rw [← hpart] at s2 ⊢
      have ep : (upd G pp (.lst (part.map V.int))) pp = some (.lst (part.map V.int)) := upd_same
      have ed2 := s2 _ _ ed
      generalize upd G pp (.lst (part.map V.int)) = G2 at s2 ep ed2
      clear hpart hpp ed
      have h0 : part[0]? = some part[0] := List.getElem?_eq_getElem (by omega)
      obtain ⟨j, hj⟩ : ∃ j : Nat, (1 : Int) + part[0] % 15 = (j : Int) := ⟨((1 : Int) + part[0] % 15).toNat, by omega⟩
      walk_at "go"
      refine lc_cut (K := K) (((part.drop 1).take (j - 1)).map V.int) bv (fun R h => ?_) ?_ ?_ (fun i x G Q' hx hG h => ?_) (fun o1 H5 _ s5 e5 => ?_)
      · rw [← cut_ints part (i := 1) (a := 1) rfl hj] at h
        exact ⟨_, rfl, 1, rfl, _, rfl, pp, _, _, _, rfl, rfl, sql ep, gt part h0, _, _, rfl, rfl, (by show (0 : Int) < _; decide), _, _, rfl, rfl, _, rfl, pp, _, rfl, sql ep, fun p hp => ⟨p, rfl, ⟨_, sql upd_same⟩, h p hp⟩⟩
      · rw [List.length_map, List.length_take, List.length_drop]; omega
      · intro x; rfl
      · obtain ⟨z, hz, rfl⟩ := map_at hx
        exact ⟨_, rfl, z, rfl, h⟩
      rw [bv_map] at e5
      have l1 : ((part.drop 1).take (j - 1)).length ≤ 20 := by rw [List.length_take, List.length_drop]; omega
      have ed3 := s5 _ _ ed2
      have hb := bytes_map ((part.drop 1).take (j - 1))
      have l2 : (((part.drop 1).take (j - 1)).map byteOf).length ≤ 20 := by rw [List.length_map]; exact l1
      generalize ((part.drop 1).take (j - 1)).map byteOf = bs at e5 hb l2
      refine ⟨_, rfl, o1, _, rfl, .inl (sql e5), _, _, rfl, rfl, ((bs.length : Int) + 1), by rw [List.length_map], by omega, by omega, ?_⟩
      refine for_range (lo := 0) (n := ((bs.length : Int) + 1).toNat) (fun k σ G => ∃ x5, σ = [some (.ref a), some (.ref pd), some (.int (0 + (i : Int))), some (.ref pp), some (.ref o1), x5, x6, none] ∧ Same H5 G) ⟨x5, rfl, Same.refl _⟩ ?_ ?_
      · rintro k σ G5 hk ⟨x5, rfl, s6⟩
        have ek : (0 : Int) + (k : Int) = ((k : Nat) : Int) := by omega
        refine ⟨_, rfl, _, rfl, o1, bs, k, congrArg (fun z => [V.ref o1, V.int z]) ek, s6.seq (sql e5), hb, by omega, by omega, fun p1 G6 s7 d1 => ?_⟩
        refine ⟨_, rfl, _, rfl, o1, bs, k, congrArg (fun z => [V.ref o1, V.int z]) ek, (s6.trans s7).seq (sql e5), hb, by omega, fun p2 G7 s8 d2 => ?_⟩
        refine ⟨_, _, dp_same s8 _ d1, d2, resD_sh _ _, resD_sh _ _, false, by rw [eqv_self (resD_sh _ _)]; rfl, ifbf rfl ?_⟩
        exact ⟨_, rfl, (s6.trans s7).trans s8⟩
      · rintro σ G5 ⟨x5, rfl, s6⟩
        exact ⟨_, _, _, _, _, rfl, s6 _ _ ed3⟩
    · rintro σ G ⟨x2, x3, x4, x5, x6, rfl, ed⟩
      refine ⟨3, rfl, by decide, by decide, for_range (lo := 0) (n := 3) (fun i σ G => ∃ x2 x3 x4 x5 x6 x7, σ = [some (.ref a), some (.ref pd), x2, x3, x4, x5, x6, x7] ∧ G pd = some (.lst (ds.map V.int))) ⟨_, _, _, _, _, _, rfl, ed⟩ ?_ ?_⟩
      · rintro i σ G hi ⟨x2, x3, x4, x5, x6, x7, rfl, ed⟩
        have e20 : (20 : Int) * (0 + (i : Int)) = ((20 * i : Nat) : Int) := by omega
        have e40 : (20 : Int) * (0 + (i : Int)) + 20 = ((20 * i + 20 : Nat) : Int) := by omega
        refine ⟨_, rfl, _, rfl, _, _, rfl, rfl, .inl ⟨by decide, by decide⟩, _, rfl, _, rfl, _, _, rfl, rfl, .inl ⟨by decide, by decide⟩, _, _, rfl, rfl, _, rfl, pd, _, rfl, sql ed, fun pp hpp => ?_⟩
        dsimp only
        rw [cut_ints ds e20 e40]
        have s2 := same_upd (o := .lst (((ds.drop (20 * i)).take (20 * i + 20 - 20 * i)).map V.int)) hpp
        obtain ⟨part, hpart⟩ : ∃ part, part = (ds.drop (20 * i)).take (20 * i + 20 - 20 * i) := ⟨_, rfl⟩
        have hpl : part.length = 20 := by rw [hpart, List.length_take, List.length_drop]; omega
        rw [← hpart] at s2 ⊢
        have ep : (upd G pp (.lst (part.map V.int))) pp = some (.lst (part.map V.int)) := upd_same
        have ed2 := s2 _ _ ed
        generalize upd G pp (.lst (part.map V.int)) = G2 at s2 ep ed2
        clear hpart hpp ed
        have h0 : part[0]? = some part[0] := List.getElem?_eq_getElem (by omega)
        have h1 : part[1]? = some part[1] := List.getElem?_eq_getElem (by omega)
        have h3 : part[3]? = some part[3] := List.getElem?_eq_getElem (by omega)
        obtain ⟨m, hm⟩ : ∃ m : Nat, (495 : Int) + part[1] % 9 = (m : Int) := ⟨((495 : Int) + part[1] % 9).toNat, by omega⟩
        refine ⟨_, rfl, pp, _, _, _, rfl, rfl, sql ep, gt part h1, _, _, rfl, rfl, (by show (0 : Int) < _; decide), _, _, rfl, rfl, (m : Int), by rw [← hm], by omega, by omega, fun D hD => ?_⟩
        refine lc_range (lo := 0) (n := ((m : Int) - 0).toNat) (fun t G => Same G2 G ∧ ∃ bs : List Int, G D = some (.lst (bs.map V.int)) ∧ Bytes bs ∧ bs.length = t) ⟨same_upd hD, [], upd_same, (fun _ z => by cases z), rfl⟩ ?_ ?_
        · rintro t G3 ht ⟨s3, bs, e3, hb3, hl3⟩
          refine ⟨rfl, ?_⟩
          dsimp only [tYes]
          refine (if_pos rfl).mpr ?_
          refine ⟨_, rfl, pp, _, _, _, rfl, rfl, sql (s3 _ _ ep), gt part h0, _, rfl, _, _, rfl, rfl, .inl ⟨_, rfl, _, _, rfl, rfl, (by show (0 : Int) < _; decide), _, _, rfl, rfl, bs.map V.int, e3, szl (by rw [List.length_map]; omega), same_put s3 hD, bs ++ [128 + (part[0] + (0 + (t : Int))) % 128], ?_, ?_, ?_⟩⟩
          · rw [upd_same, List.map_append]; rfl
          · intro b hb
            rcases List.mem_append.mp hb with z | z
            · exact hb3 b z
            · rw [List.mem_singleton] at z
              rw [z]
              have := Int.emod_nonneg (part[0] + (0 + (t : Int))) (show (128 : Int) ≠ 0 by decide)
              have := Int.emod_lt_of_pos (part[0] + (0 + (t : Int))) (show (0 : Int) < 128 by decide)
              omega
          · rw [List.length_append, hl3]; rfl
        rintro G3 ⟨s3, bs, e3, hb3, hl3⟩
        have ep3 := s3 _ _ ep
        obtain ⟨j, hj⟩ : ∃ j : Nat, (2 : Int) + part[3] % 4 = (j : Int) := ⟨((2 : Int) + part[3] % 4).toNat, by omega⟩
        refine ⟨_, rfl, ?_⟩
        refine lc_cut (K := K) (((part.drop 2).take (j - 2)).map V.int) bv (fun R h => ?_) ?_ ?_ (fun i x G Q' hx hG h => ?_) (fun o1 H5 _ s5 e5 => ?_)
        · rw [← cut_ints part (i := 2) (a := 2) rfl hj] at h
          exact ⟨_, rfl, 2, rfl, _, rfl, pp, _, _, _, rfl, rfl, sql ep3, gt part h3, _, _, rfl, rfl, (by show (0 : Int) < _; decide), _, _, rfl, rfl, _, rfl, pp, _, rfl, sql ep3, fun p hp => ⟨p, rfl, ⟨_, sql upd_same⟩, h p hp⟩⟩
        · rw [List.length_map, List.length_take, List.length_drop]; omega
        · intro x; rfl
        · obtain ⟨z, hz, rfl⟩ := map_at hx
          exact ⟨_, rfl, z, rfl, h⟩
        rw [bv_map] at e5
        have l1 : ((part.drop 2).take (j - 2)).length ≤ 20 := by rw [List.length_take, List.length_drop]; omega
        have hb5 := bytes_map ((part.drop 2).take (j - 2))
        have l2 : (((part.drop 2).take (j - 2)).map byteOf).length ≤ 20 := by rw [List.length_map]; exact l1
        generalize ((part.drop 2).take (j - 2)).map byteOf = cs at e5 hb5 l2
        have e35 := s5 _ _ e3
        have ed5 := s5 _ _ (s3 _ _ ed2)
        refine ⟨D, o1, bs.map V.int, cs.map V.int, rfl, rfl, e35, e5, by rw [List.length_map, List.length_map]; exact sz (by omega), fun o2 ho2 => ?_⟩
        have s6 := same_upd (o := .lst (bs.map V.int ++ cs.map V.int)) ho2
        have e6 : (upd H5 o2 (.lst (bs.map V.int ++ cs.map V.int))) o2 = some (.lst ((bs ++ cs).map V.int)) := by rw [upd_same, List.map_append]
        have ed6 := s6 _ _ ed5
        have hb6 : Bytes (bs ++ cs) := fun b hb => (List.mem_append.mp hb).elim (hb3 b) (hb5 b)
        have l6 : (bs ++ cs).length ≤ 600 ∧ 495 ≤ (bs ++ cs).length := by rw [List.length_append]; omega
        generalize upd H5 o2 (.lst (bs.map V.int ++ cs.map V.int)) = H6 at s6 e6 ed6
        generalize bs ++ cs = rs at e6 hb6 l6
        refine ⟨3, rfl, by decide, by decide, for_range (lo := 0) (n := 3) (fun k σ G => ∃ x5 x6 x7, σ = [some (.ref a), some (.ref pd), some (.int (0 + (i : Int))), some (.ref pp), some (.ref o2), x5, x6, x7] ∧ Same H6 G) ⟨x5, _, _, rfl, Same.refl _⟩ ?_ ?_⟩
        · rintro k σ G5 hk ⟨x5, x6, x7, rfl, s7⟩
          have ek : (0 : Int) + (k : Int) = ((k : Nat) : Int) := by omega
          refine ⟨_, rfl, _, rfl, o2, rs, k, congrArg (fun z => [V.ref o2, V.int z]) ek, s7.seq (sql e6), hb6, by omega, by omega, fun p1 G6 s8 d1 => ?_⟩
          refine ⟨_, rfl, _, rfl, o2, rs, k, congrArg (fun z => [V.ref o2, V.int z]) ek, (s7.trans s8).seq (sql e6), hb6, by omega, fun p2 G7 s9 d2 => ?_⟩
          refine ⟨_, _, dp_same s9 _ d1, d2, resD_sh _ _, resD_sh _ _, false, by rw [eqv_self (resD_sh _ _)]; rfl, ifbf rfl ?_⟩
          exact ⟨_, _, _, rfl, (s7.trans s8).trans s9⟩
        · rintro σ G5 ⟨x5, x6, x7, rfl, s7⟩
          exact ⟨_, _, _, _, _, _, rfl, s7 _ _ ed6⟩
      · rintro σ G ⟨x2, x3, x4, x5, x6, x7, rfl, ed⟩
        exact q _
end
theorem all_mk {l : PySem.W.OpenLaw} {w : World} {K : PySem.W.Frag} {h : Heap} {mg : Str → Option Value} {fa : Addr} (X : K.In h) (G : h.Ns mainGlobals mg) (hfa : mg "law" = some (.ref fa))
    {e_MajordomoError : Addr} {e_CodecError : Addr} {e_Truncated : Addr} {e_Malformed : Addr} {e_Damaged : Addr} {e_NotAValue : Addr} {e_StoreError : Addr} {f_take_number : Addr} {od_take_number an_take_number : Option Addr} {sl_take_number : Array (Option Value)} {oc_take_number kV_take_number dc_take_number pm_take_number cd_take_number ct_take_number : Value} {f__law_is_integer : Addr} {od__law_is_integer an__law_is_integer : Option Addr} {sl__law_is_integer : Array (Option Value)} {oc__law_is_integer kV__law_is_integer dc__law_is_integer pm__law_is_integer cd__law_is_integer ct__law_is_integer : Value} {f__law_draws : Addr} {od__law_draws an__law_draws : Option Addr} {sl__law_draws : Array (Option Value)} {oc__law_draws kV__law_draws dc__law_draws pm__law_draws cd__law_draws ct__law_draws : Value} {f__law_expected : Addr} {od__law_expected an__law_expected : Option Addr} {sl__law_expected : Array (Option Value)} {oc__law_expected kV__law_expected dc__law_expected pm__law_expected cd__law_expected ct__law_expected : Value} {f__law_actual : Addr} {od__law_actual an__law_actual : Option Addr} {sl__law_actual : Array (Option Value)} {oc__law_actual kV__law_actual dc__law_actual pm__law_actual cd__law_actual ct__law_actual : Value} {f__law_byte : Addr} {od__law_byte an__law_byte : Option Addr} {sl__law_byte : Array (Option Value)} {oc__law_byte kV__law_byte dc__law_byte pm__law_byte cd__law_byte ct__law_byte : Value} {f_law : Addr} {od_law an_law : Option Addr} {sl_law : Array (Option Value)} {oc_law kV_law dc_law pm_law cd_law ct_law : Value} {t_MOST_BYTES : Tok}
    (g_MajordomoError : PySem.W.nsIn K mainGlobals "MajordomoError" = some (some (.ref e_MajordomoError)))
    (x_MajordomoError : PySem.W.excIn K e_MajordomoError [.type "ValueError", .type "Exception", .type "BaseException", .type "object"] "ValueError.__new__" = true)
    (k_MajordomoError : PySem.W.keepIn K (.ref e_MajordomoError) = true)
    (s_MajordomoError : PySem.W.subIn K (.ref e_MajordomoError) (.type "BaseException") = some true)
    (t_MajordomoError : PySem.W.typeIn K (.ref e_MajordomoError) = some (.type "type"))
    (g_CodecError : PySem.W.nsIn K mainGlobals "CodecError" = some (some (.ref e_CodecError)))
    (x_CodecError : PySem.W.excIn K e_CodecError [.type "ValueError", .type "Exception", .type "BaseException", .type "object"] "ValueError.__new__" = true)
    (k_CodecError : PySem.W.keepIn K (.ref e_CodecError) = true)
    (s_CodecError : PySem.W.subIn K (.ref e_CodecError) (.type "BaseException") = some true)
    (t_CodecError : PySem.W.typeIn K (.ref e_CodecError) = some (.type "type"))
    (hx_CodecError : PySem.W.hasDictIn K e_CodecError = true)
    (g_Truncated : PySem.W.nsIn K mainGlobals "Truncated" = some (some (.ref e_Truncated)))
    (x_Truncated : PySem.W.excIn K e_Truncated [.type "ValueError", .type "Exception", .type "BaseException", .type "object"] "ValueError.__new__" = true)
    (k_Truncated : PySem.W.keepIn K (.ref e_Truncated) = true)
    (s_Truncated : PySem.W.subIn K (.ref e_Truncated) (.type "BaseException") = some true)
    (t_Truncated : PySem.W.typeIn K (.ref e_Truncated) = some (.type "type"))
    (hx_Truncated : PySem.W.hasDictIn K e_Truncated = true)
    (su_Truncated : PySem.W.subIn K (.ref e_Truncated) (.ref e_Truncated) = some true)
    (g_Malformed : PySem.W.nsIn K mainGlobals "Malformed" = some (some (.ref e_Malformed)))
    (x_Malformed : PySem.W.excIn K e_Malformed [.type "ValueError", .type "Exception", .type "BaseException", .type "object"] "ValueError.__new__" = true)
    (k_Malformed : PySem.W.keepIn K (.ref e_Malformed) = true)
    (s_Malformed : PySem.W.subIn K (.ref e_Malformed) (.type "BaseException") = some true)
    (t_Malformed : PySem.W.typeIn K (.ref e_Malformed) = some (.type "type"))
    (hx_Malformed : PySem.W.hasDictIn K e_Malformed = true)
    (su_Malformed : PySem.W.subIn K (.ref e_Malformed) (.ref e_Malformed) = some true)
    (g_Damaged : PySem.W.nsIn K mainGlobals "Damaged" = some (some (.ref e_Damaged)))
    (x_Damaged : PySem.W.excIn K e_Damaged [.type "ValueError", .type "Exception", .type "BaseException", .type "object"] "ValueError.__new__" = true)
    (k_Damaged : PySem.W.keepIn K (.ref e_Damaged) = true)
    (s_Damaged : PySem.W.subIn K (.ref e_Damaged) (.type "BaseException") = some true)
    (t_Damaged : PySem.W.typeIn K (.ref e_Damaged) = some (.type "type"))
    (g_NotAValue : PySem.W.nsIn K mainGlobals "NotAValue" = some (some (.ref e_NotAValue)))
    (x_NotAValue : PySem.W.excIn K e_NotAValue [.type "ValueError", .type "Exception", .type "BaseException", .type "object"] "ValueError.__new__" = true)
    (k_NotAValue : PySem.W.keepIn K (.ref e_NotAValue) = true)
    (s_NotAValue : PySem.W.subIn K (.ref e_NotAValue) (.type "BaseException") = some true)
    (t_NotAValue : PySem.W.typeIn K (.ref e_NotAValue) = some (.type "type"))
    (g_StoreError : PySem.W.nsIn K mainGlobals "StoreError" = some (some (.ref e_StoreError)))
    (x_StoreError : PySem.W.excIn K e_StoreError [.type "ValueError", .type "Exception", .type "BaseException", .type "object"] "ValueError.__new__" = true)
    (k_StoreError : PySem.W.keepIn K (.ref e_StoreError) = true)
    (s_StoreError : PySem.W.subIn K (.ref e_StoreError) (.type "BaseException") = some true)
    (t_StoreError : PySem.W.typeIn K (.ref e_StoreError) = some (.type "type"))
    (sb_Truncated_Truncated : PySem.W.subIn K (.ref e_Truncated) (.ref e_Truncated) = some true)
    (sb_Malformed_Truncated : PySem.W.subIn K (.ref e_Malformed) (.ref e_Truncated) = some false)
    (sb_Malformed_CodecError : PySem.W.subIn K (.ref e_Malformed) (.ref e_CodecError) = some true)
    (Xhg_Truncated : PySem.W.findIn K (.ref e_Truncated) "__getattribute__" = some (some (.builtin "BaseException.__getattribute__")))
    (Xhk_Truncated : PySem.W.findIn K (.ref e_Truncated) "__getattr__" = some none)
    (Xhs_Truncated : PySem.W.subIn K (.ref e_Truncated) (.type "BaseException") = some true)
    (Xhd_Truncated : PySem.W.hasDictIn K e_Truncated = true)
    (Xha_Truncated : PySem.W.findIn K (.ref e_Truncated) "__class__" = some (some (.builtin "object.__class__")))
    (Xhn_Truncated : PySem.W.specialIn K (.builtin "object.__class__") "__get__" = some (some (.builtin "getset_descriptor.__get__")))
    (Xht_Truncated : PySem.W.takesIn K (.builtin "object.__class__") = some true)
    (Xhm_Truncated : PySem.W.mroIn K e_Truncated (.type "object") = some true)
    (y_Truncated_CodecError : PySem.W.kitOne K (.ref e_Truncated) (.ref e_CodecError) = some true)
    (y_Truncated_MajordomoError : PySem.W.kitOne K (.ref e_Truncated) (.ref e_MajordomoError) = some true)
    (y_Truncated_ValueError : PySem.W.kitOne K (.ref e_Truncated) (.type "ValueError") = some true)
    (y_Truncated_Malformed : PySem.W.kitOne K (.ref e_Truncated) (.ref e_Malformed) = some false)
    (y_Truncated_Damaged : PySem.W.kitOne K (.ref e_Truncated) (.ref e_Damaged) = some false)
    (y_Truncated_NotAValue : PySem.W.kitOne K (.ref e_Truncated) (.ref e_NotAValue) = some false)
    (y_Truncated_StoreError : PySem.W.kitOne K (.ref e_Truncated) (.ref e_StoreError) = some false)
    (Xhg_Malformed : PySem.W.findIn K (.ref e_Malformed) "__getattribute__" = some (some (.builtin "BaseException.__getattribute__")))
    (Xhk_Malformed : PySem.W.findIn K (.ref e_Malformed) "__getattr__" = some none)
    (Xhs_Malformed : PySem.W.subIn K (.ref e_Malformed) (.type "BaseException") = some true)
    (Xhd_Malformed : PySem.W.hasDictIn K e_Malformed = true)
    (Xha_Malformed : PySem.W.findIn K (.ref e_Malformed) "__class__" = some (some (.builtin "object.__class__")))
    (Xhn_Malformed : PySem.W.specialIn K (.builtin "object.__class__") "__get__" = some (some (.builtin "getset_descriptor.__get__")))
    (Xht_Malformed : PySem.W.takesIn K (.builtin "object.__class__") = some true)
    (Xhm_Malformed : PySem.W.mroIn K e_Malformed (.type "object") = some true)
    (y_Malformed_Malformed : PySem.W.kitOne K (.ref e_Malformed) (.ref e_Malformed) = some true)
    (y_Malformed_Damaged : PySem.W.kitOne K (.ref e_Malformed) (.ref e_Damaged) = some false)
    (y_Malformed_NotAValue : PySem.W.kitOne K (.ref e_Malformed) (.ref e_NotAValue) = some false)
    (g_take_number : PySem.W.nsIn K mainGlobals "take_number" = some (some (.ref f_take_number)))
    (l_take_number : K.lookup f_take_number = some ⟨oc_take_number, od_take_number, .func (PySem.W.fnOf "take_number" "take_number" (defArgs s_take_number) (defBody s_take_number) (defScope s_take_number) .none kV_take_number dc_take_number pm_take_number an_take_number cd_take_number ct_take_number), sl_take_number⟩)
    (c_take_number : PySem.W.codeIn K cd_take_number "take_number" = true)
    (k_take_number : PySem.W.keepIn K (.ref f_take_number) = true)
    (g__law_is_integer : PySem.W.nsIn K mainGlobals "_law_is_integer" = some (some (.ref f__law_is_integer)))
    (l__law_is_integer : K.lookup f__law_is_integer = some ⟨oc__law_is_integer, od__law_is_integer, .func (PySem.W.fnOf "_law_is_integer" "_law_is_integer" (defArgs s__law_is_integer) (defBody s__law_is_integer) (defScope s__law_is_integer) .none kV__law_is_integer dc__law_is_integer pm__law_is_integer an__law_is_integer cd__law_is_integer ct__law_is_integer), sl__law_is_integer⟩)
    (c__law_is_integer : PySem.W.codeIn K cd__law_is_integer "_law_is_integer" = true)
    (k__law_is_integer : PySem.W.keepIn K (.ref f__law_is_integer) = true)
    (g__law_draws : PySem.W.nsIn K mainGlobals "_law_draws" = some (some (.ref f__law_draws)))
    (l__law_draws : K.lookup f__law_draws = some ⟨oc__law_draws, od__law_draws, .func (PySem.W.fnOf "_law_draws" "_law_draws" (defArgs s__law_draws) (defBody s__law_draws) (defScope s__law_draws) .none kV__law_draws dc__law_draws pm__law_draws an__law_draws cd__law_draws ct__law_draws), sl__law_draws⟩)
    (c__law_draws : PySem.W.codeIn K cd__law_draws "_law_draws" = true)
    (k__law_draws : PySem.W.keepIn K (.ref f__law_draws) = true)
    (g__law_expected : PySem.W.nsIn K mainGlobals "_law_expected" = some (some (.ref f__law_expected)))
    (l__law_expected : K.lookup f__law_expected = some ⟨oc__law_expected, od__law_expected, .func (PySem.W.fnOf "_law_expected" "_law_expected" (defArgs s__law_expected) (defBody s__law_expected) (defScope s__law_expected) .none kV__law_expected dc__law_expected pm__law_expected an__law_expected cd__law_expected ct__law_expected), sl__law_expected⟩)
    (c__law_expected : PySem.W.codeIn K cd__law_expected "_law_expected" = true)
    (k__law_expected : PySem.W.keepIn K (.ref f__law_expected) = true)
    (g__law_actual : PySem.W.nsIn K mainGlobals "_law_actual" = some (some (.ref f__law_actual)))
    (l__law_actual : K.lookup f__law_actual = some ⟨oc__law_actual, od__law_actual, .func (PySem.W.fnOf "_law_actual" "_law_actual" (defArgs s__law_actual) (defBody s__law_actual) (defScope s__law_actual) .none kV__law_actual dc__law_actual pm__law_actual an__law_actual cd__law_actual ct__law_actual), sl__law_actual⟩)
    (c__law_actual : PySem.W.codeIn K cd__law_actual "_law_actual" = true)
    (k__law_actual : PySem.W.keepIn K (.ref f__law_actual) = true)
    (g__law_byte : PySem.W.nsIn K mainGlobals "_law_byte" = some (some (.ref f__law_byte)))
    (l__law_byte : K.lookup f__law_byte = some ⟨oc__law_byte, od__law_byte, .func (PySem.W.fnOf "_law_byte" "_law_byte" (defArgs s__law_byte) (defBody s__law_byte) (defScope s__law_byte) .none kV__law_byte dc__law_byte pm__law_byte an__law_byte cd__law_byte ct__law_byte), sl__law_byte⟩)
    (c__law_byte : PySem.W.codeIn K cd__law_byte "_law_byte" = true)
    (k__law_byte : PySem.W.keepIn K (.ref f__law_byte) = true)
    (g_law : PySem.W.nsIn K mainGlobals "law" = some (some (.ref f_law)))
    (l_law : K.lookup f_law = some ⟨oc_law, od_law, .func (PySem.W.fnOf "law" "law" (defArgs s_law) (defBody s_law) (defScope s_law) .none kV_law dc_law pm_law an_law cd_law ct_law), sl_law⟩)
    (c_law : PySem.W.codeIn K cd_law "law" = true)
    (k_law : PySem.W.keepIn K (.ref f_law) = true)
    (c_MOST_BYTES : PySem.W.nsIn K mainGlobals "MOST_BYTES" = some (some (.int 500 t_MOST_BYTES)))
    (n_range : PySem.W.nsIn K mainGlobals "range" = some none)
    (n_len : PySem.W.nsIn K mainGlobals "len" = some none)
    (n_abs : PySem.W.nsIn K mainGlobals "abs" = some none)
    (n_int : PySem.W.nsIn K mainGlobals "int" = some none)
    (n_isinstance : PySem.W.nsIn K mainGlobals "isinstance" = some none)
    (n_bool : PySem.W.nsIn K mainGlobals "bool" = some none)
    (n_min : PySem.W.nsIn K mainGlobals "min" = some none)
    (n_list : PySem.W.nsIn K mainGlobals "list" = some none)
    (n_ValueError : PySem.W.nsIn K mainGlobals "ValueError" = some none)
    (n_tuple : PySem.W.nsIn K mainGlobals "tuple" = some none) :
    ∃ fd : FuncData, (∀ (s : Shared) (v : Value), BindsTo s fd ⟨[v], []⟩ [("script", v)]) ∧ ∀ base : Heap, K.In base → base.Ns mainGlobals mg → FnOk l.prog w K mg base CX0 3 fa fd ["script"] (sp_law K) := by
  have e : fa = f_law := by
    have z := hfa.symm.trans (PySem.W.mg_of X G g_law)
    injection z with z
    injection z
  rw [e]
  let T : TX K mg := ⟨e_MajordomoError, (PySem.W.mg_of X G g_MajordomoError), x_MajordomoError, k_MajordomoError, s_MajordomoError, t_MajordomoError, e_CodecError, (PySem.W.mg_of X G g_CodecError), x_CodecError, k_CodecError, s_CodecError, t_CodecError, e_Truncated, (PySem.W.mg_of X G g_Truncated), x_Truncated, k_Truncated, s_Truncated, t_Truncated, (PySem.W.exm_ref s_Truncated hx_Truncated t_Truncated su_Truncated), e_Malformed, (PySem.W.mg_of X G g_Malformed), x_Malformed, k_Malformed, s_Malformed, t_Malformed, (PySem.W.exm_ref s_Malformed hx_Malformed t_Malformed su_Malformed), e_Damaged, (PySem.W.mg_of X G g_Damaged), x_Damaged, k_Damaged, s_Damaged, t_Damaged, e_NotAValue, (PySem.W.mg_of X G g_NotAValue), x_NotAValue, k_NotAValue, s_NotAValue, t_NotAValue, e_StoreError, (PySem.W.mg_of X G g_StoreError), x_StoreError, k_StoreError, s_StoreError, t_StoreError, (PySem.W.exm_ref s_Truncated hx_Truncated t_Truncated sb_Truncated_Truncated), (PySem.W.exm_ref s_Truncated hx_Truncated t_Truncated sb_Malformed_Truncated), (PySem.W.exm_ref s_CodecError hx_CodecError t_CodecError sb_Malformed_CodecError), ⟨Xhg_Truncated, Xhk_Truncated, Xhs_Truncated, Xhd_Truncated, Xha_Truncated, Xhn_Truncated, Xht_Truncated, Xhm_Truncated⟩, y_Truncated_CodecError, y_Truncated_MajordomoError, y_Truncated_ValueError, y_Truncated_Malformed, y_Truncated_Damaged, y_Truncated_NotAValue, y_Truncated_StoreError, ⟨Xhg_Malformed, Xhk_Malformed, Xhs_Malformed, Xhd_Malformed, Xha_Malformed, Xhn_Malformed, Xht_Malformed, Xhm_Malformed⟩, y_Malformed_Malformed, y_Malformed_Damaged, y_Malformed_NotAValue, f_take_number, (PySem.W.fnOf "take_number" "take_number" (defArgs s_take_number) (defBody s_take_number) (defScope s_take_number) .none kV_take_number dc_take_number pm_take_number an_take_number cd_take_number ct_take_number), (fun_mk (st := s_take_number) l_take_number c_take_number k_take_number), ((fun_mk (st := s_take_number) l_take_number c_take_number k_take_number).binds (ps := ["row", "index"]) fun _ _ _ _ _ _ us hl => match us, hl with | [_, _], _ => rfl), (PySem.W.mg_of X G g_take_number), f__law_is_integer, (PySem.W.fnOf "_law_is_integer" "_law_is_integer" (defArgs s__law_is_integer) (defBody s__law_is_integer) (defScope s__law_is_integer) .none kV__law_is_integer dc__law_is_integer pm__law_is_integer an__law_is_integer cd__law_is_integer ct__law_is_integer), (fun_mk (st := s__law_is_integer) l__law_is_integer c__law_is_integer k__law_is_integer), ((fun_mk (st := s__law_is_integer) l__law_is_integer c__law_is_integer k__law_is_integer).binds (ps := ["actual"]) fun _ _ _ _ _ _ us hl => match us, hl with | [_], _ => rfl), (PySem.W.mg_of X G g__law_is_integer), f__law_draws, (PySem.W.fnOf "_law_draws" "_law_draws" (defArgs s__law_draws) (defBody s__law_draws) (defScope s__law_draws) .none kV__law_draws dc__law_draws pm__law_draws an__law_draws cd__law_draws ct__law_draws), (fun_mk (st := s__law_draws) l__law_draws c__law_draws k__law_draws), ((fun_mk (st := s__law_draws) l__law_draws c__law_draws k__law_draws).binds (ps := ["script", "many"]) fun _ _ _ _ _ _ us hl => match us, hl with | [_, _], _ => rfl), (PySem.W.mg_of X G g__law_draws), f__law_expected, (PySem.W.fnOf "_law_expected" "_law_expected" (defArgs s__law_expected) (defBody s__law_expected) (defScope s__law_expected) .none kV__law_expected dc__law_expected pm__law_expected an__law_expected cd__law_expected ct__law_expected), (fun_mk (st := s__law_expected) l__law_expected c__law_expected k__law_expected), ((fun_mk (st := s__law_expected) l__law_expected c__law_expected k__law_expected).binds (ps := ["row", "index"]) fun _ _ _ _ _ _ us hl => match us, hl with | [_, _], _ => rfl), (PySem.W.mg_of X G g__law_expected), f__law_actual, (PySem.W.fnOf "_law_actual" "_law_actual" (defArgs s__law_actual) (defBody s__law_actual) (defScope s__law_actual) .none kV__law_actual dc__law_actual pm__law_actual an__law_actual cd__law_actual ct__law_actual), (fun_mk (st := s__law_actual) l__law_actual c__law_actual k__law_actual), ((fun_mk (st := s__law_actual) l__law_actual c__law_actual k__law_actual).binds (ps := ["row", "index"]) fun _ _ _ _ _ _ us hl => match us, hl with | [_, _], _ => rfl), (PySem.W.mg_of X G g__law_actual), f__law_byte, (PySem.W.fnOf "_law_byte" "_law_byte" (defArgs s__law_byte) (defBody s__law_byte) (defScope s__law_byte) .none kV__law_byte dc__law_byte pm__law_byte an__law_byte cd__law_byte ct__law_byte), (fun_mk (st := s__law_byte) l__law_byte c__law_byte k__law_byte), ((fun_mk (st := s__law_byte) l__law_byte c__law_byte k__law_byte).binds (ps := ["draw"]) fun _ _ _ _ _ _ us hl => match us, hl with | [_], _ => rfl), (PySem.W.mg_of X G g__law_byte), f_law, (PySem.W.fnOf "law" "law" (defArgs s_law) (defBody s_law) (defScope s_law) .none kV_law dc_law pm_law an_law cd_law ct_law), (fun_mk (st := s_law) l_law c_law k_law), ((fun_mk (st := s_law) l_law c_law k_law).binds (ps := ["script"]) fun _ _ _ _ _ _ us hl => match us, hl with | [_], _ => rfl), (PySem.W.mg_of X G g_law), t_MOST_BYTES, (PySem.W.mg_of X G c_MOST_BYTES), (PySem.W.mg_none_of X G n_range), (PySem.W.mg_none_of X G n_len), (PySem.W.mg_none_of X G n_abs), (PySem.W.mg_none_of X G n_int), (PySem.W.mg_none_of X G n_isinstance), (PySem.W.mg_none_of X G n_bool), (PySem.W.mg_none_of X G n_min), (PySem.W.mg_none_of X G n_list), (PySem.W.mg_none_of X G n_ValueError), (PySem.W.mg_none_of X G n_tuple)⟩
  exact ⟨T.d_law, fun s v => .of_eq rfl, fun base _ _ => ok_law T⟩
end My
open PySem PySem.W PyProof.Rows
set_option maxHeartbeats 0 in
theorem PySem.Challenge.cw_majordomo_k01_rows_that_hold_no_number_holds : PySem.Challenge.rw_majordomo_k01_rows_that_hold_no_number.Holds := by
  w_on; o_law; k_head; (case hw => w_witness2)
  k_fill
  refine L2.walk_of (l := PySem.Challenge.rw_majordomo_k01_rows_that_hold_no_number) (n := 63) (k := 3) (x := "script") (CX := (fun _ => L2.CX0)) (sp := fun w => My.sp_law _) rfl (by decide) rfl ⟨rfl, by decide, by decide⟩ (fun w h Y => PySem.W.kIn_of Y) ?F (fun _ _ a ns hl _ hS => ⟨a, ns, rfl, hS, hl, fun _ => rfl⟩) (fun _ _ _ _ _ h => h)
  case F =>
    intro w mg fa h KX G hmg
    refine' My.all_mk KX G hmg ?g_MajordomoError ?x_MajordomoError ?k_MajordomoError ?s_MajordomoError ?t_MajordomoError ?g_CodecError ?x_CodecError ?k_CodecError ?s_CodecError ?t_CodecError ?hx_CodecError ?g_Truncated ?x_Truncated ?k_Truncated ?s_Truncated ?t_Truncated ?hx_Truncated ?su_Truncated ?g_Malformed ?x_Malformed ?k_Malformed ?s_Malformed ?t_Malformed ?hx_Malformed ?su_Malformed ?g_Damaged ?x_Damaged ?k_Damaged ?s_Damaged ?t_Damaged ?g_NotAValue ?x_NotAValue ?k_NotAValue ?s_NotAValue ?t_NotAValue ?g_StoreError ?x_StoreError ?k_StoreError ?s_StoreError ?t_StoreError ?sb_Truncated_Truncated ?sb_Malformed_Truncated ?sb_Malformed_CodecError ?Xhg_Truncated ?Xhk_Truncated ?Xhs_Truncated ?Xhd_Truncated ?Xha_Truncated ?Xhn_Truncated ?Xht_Truncated ?Xhm_Truncated ?y_Truncated_CodecError ?y_Truncated_MajordomoError ?y_Truncated_ValueError ?y_Truncated_Malformed ?y_Truncated_Damaged ?y_Truncated_NotAValue ?y_Truncated_StoreError ?Xhg_Malformed ?Xhk_Malformed ?Xhs_Malformed ?Xhd_Malformed ?Xha_Malformed ?Xhn_Malformed ?Xht_Malformed ?Xhm_Malformed ?y_Malformed_Malformed ?y_Malformed_Damaged ?y_Malformed_NotAValue ?g_take_number ?l_take_number ?c_take_number ?k_take_number ?g__law_is_integer ?l__law_is_integer ?c__law_is_integer ?k__law_is_integer ?g__law_draws ?l__law_draws ?c__law_draws ?k__law_draws ?g__law_expected ?l__law_expected ?c__law_expected ?k__law_expected ?g__law_actual ?l__law_actual ?c__law_actual ?k__law_actual ?g__law_byte ?l__law_byte ?c__law_byte ?k__law_byte ?g_law ?l_law ?c_law ?k_law ?c_MOST_BYTES ?n_range ?n_len ?n_abs ?n_int ?n_isinstance ?n_bool ?n_min ?n_list ?n_ValueError ?n_tuple
    (case g_MajordomoError => k_is); (case x_MajordomoError => k_exc); (case k_MajordomoError => k_is); (case s_MajordomoError => k_is); (case t_MajordomoError => k_is); (case g_CodecError => k_is); (case x_CodecError => k_exc); (case k_CodecError => k_is); (case s_CodecError => k_is); (case t_CodecError => k_is); (case hx_CodecError => k_is); (case g_Truncated => k_is); (case x_Truncated => k_exc); (case k_Truncated => k_is); (case s_Truncated => k_is); (case t_Truncated => k_is); (case hx_Truncated => k_is); (case su_Truncated => k_is); (case g_Malformed => k_is); (case x_Malformed => k_exc); (case k_Malformed => k_is); (case s_Malformed => k_is); (case t_Malformed => k_is); (case hx_Malformed => k_is); (case su_Malformed => k_is); (case g_Damaged => k_is); (case x_Damaged => k_exc); (case k_Damaged => k_is); (case s_Damaged => k_is); (case t_Damaged => k_is); (case g_NotAValue => k_is); (case x_NotAValue => k_exc); (case k_NotAValue => k_is); (case s_NotAValue => k_is); (case t_NotAValue => k_is); (case g_StoreError => k_is); (case x_StoreError => k_exc); (case k_StoreError => k_is); (case s_StoreError => k_is); (case t_StoreError => k_is); (case sb_Truncated_Truncated => k_is); (case sb_Malformed_Truncated => k_is); (case sb_Malformed_CodecError => k_is); (case Xhg_Truncated => k_is); (case Xhk_Truncated => k_is); (case Xhs_Truncated => k_is); (case Xhd_Truncated => k_is); (case Xha_Truncated => k_is); (case Xhn_Truncated => k_is); (case Xht_Truncated => k_is); (case Xhm_Truncated => k_is); (case y_Truncated_CodecError => kit_is); (case y_Truncated_MajordomoError => kit_is); (case y_Truncated_ValueError => kit_is); (case y_Truncated_Malformed => kit_is); (case y_Truncated_Damaged => kit_is); (case y_Truncated_NotAValue => kit_is); (case y_Truncated_StoreError => kit_is); (case Xhg_Malformed => k_is); (case Xhk_Malformed => k_is); (case Xhs_Malformed => k_is); (case Xhd_Malformed => k_is); (case Xha_Malformed => k_is); (case Xhn_Malformed => k_is); (case Xht_Malformed => k_is); (case Xhm_Malformed => k_is); (case y_Malformed_Malformed => kit_is); (case y_Malformed_Damaged => kit_is); (case y_Malformed_NotAValue => kit_is); (case g_take_number => k_is); (case l_take_number => k_is); (case c_take_number => k_is); (case k_take_number => k_is); (case g__law_is_integer => k_is); (case l__law_is_integer => k_is); (case c__law_is_integer => k_is); (case k__law_is_integer => k_is); (case g__law_draws => k_is); (case l__law_draws => k_is); (case c__law_draws => k_is); (case k__law_draws => k_is); (case g__law_expected => k_is); (case l__law_expected => k_is); (case c__law_expected => k_is); (case k__law_expected => k_is); (case g__law_actual => k_is); (case l__law_actual => k_is); (case c__law_actual => k_is); (case k__law_actual => k_is); (case g__law_byte => k_is); (case l__law_byte => k_is); (case c__law_byte => k_is); (case k__law_byte => k_is); (case g_law => k_is); (case l_law => k_is); (case c_law => k_is); (case k_law => k_is); (case c_MOST_BYTES => k_is); (case n_range => k_is); (case n_len => k_is); (case n_abs => k_is); (case n_int => k_is); (case n_isinstance => k_is); (case n_bool => k_is); (case n_min => k_is); (case n_list => k_is); (case n_ValueError => k_is); (case n_tuple => k_is)

