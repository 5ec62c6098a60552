import PyProof.Rows.All
import Wide.All
import OpenK.AllK
import Wide.FinOn
import HandS.ForMost
import HandS.IsInst
import HandS.EndBits
import HandS.Wide
import HandS.WideBits
import HandS.TupAny
import HandS.Codes
import HandS.Defaults
import HandS.ForExc
import HandS.TryMany
import HandS.ExcIs
import HandS.TryElse
import HandS.DictComp
import HandS.Walk
import PySem.Challenge.RW_majordomo_k17_slots_in_order
set_option Elab.async false
set_option linter.all false
set_option maxRecDepth 100000
set_option maxHeartbeats 4000000

namespace My
open PySem PySem.Spec PyProof.Rows L2
/-! own words: tests, heaps, items -/
theorem ifd {p A B : Prop} [Decidable p] (h1 : p → A) (h2 : ¬ p → B) : if decide p = true then A else B := by
  by_cases h : p
  · rw [decide_eq_true h]; exact (if_pos rfl).mpr (h1 h)
  · rw [decide_eq_false h]; exact (if_neg Bool.false_ne_true).mpr (h2 h)
theorem ifn {p A B : Prop} [Decidable p] (h1 : ¬ p → A) (h2 : p → B) : if (!decide p) = true then A else B := by
  by_cases h : p
  · rw [decide_eq_true h]; exact (if_neg Bool.false_ne_true).mpr (h2 h)
  · rw [decide_eq_false h]; exact (if_pos rfl).mpr (h1 h)
theorem ift {p A B : Prop} [Decidable p] (h : p) (h1 : A) : if decide p = true then A else B := by
  rw [decide_eq_true h]; exact (if_pos rfl).mpr h1
theorem iff0 {p A B : Prop} [Decidable p] (h : ¬ p) (h1 : B) : if decide p = true then A else B := by
  rw [decide_eq_false h]; exact (if_neg Bool.false_ne_true).mpr h1
theorem ifnt {p A B : Prop} [Decidable p] (h : p) (h1 : B) : if (!decide p) = true then A else B := by
  rw [decide_eq_true h]; exact (if_neg Bool.false_ne_true).mpr h1
theorem ifbt {b : Bool} {A B : Prop} (h : b = true) (h1 : A) : if b = true then A else B := (if_pos h).mpr h1
theorem ifbf {b : Bool} {A B : Prop} (h : b = false) (h1 : B) : if b = true then A else B := by rw [h]; exact h1
theorem ifb2 {b : Bool} {A B : Prop} (h1 : b = true → A) (h2 : b = false → B) : if b = true then A else B := by
  cases b with
  | true => exact h1 rfl
  | false => exact h2 rfl
theorem same_upd {H : Hp} {p : Addr} {o : HO} (h : H p = none) : Same H (upd H p o) := fun b x e => by
  rw [upd_ne (ne_of_none e h)]
  exact e
theorem same_put {H H' : Hp} {p : Addr} {o : HO} (e : Same H H') (h : H p = none) : Same H (upd H' p o) := fun b x q => by
  rw [upd_ne (ne_of_none q h)]
  exact e b x q
theorem sqt_same {K : PySem.W.Frag} {H H' : Hp} {a : Addr} {xs : List V} (e : Same H H') (h : SqT K H a xs) : SqT K H' a xs := by
  rcases h with (h | ⟨o, h⟩) | h
  · exact .inl (.inl (e _ _ h))
  · exact .inl (.inr ⟨o, e _ _ h⟩)
  · exact .inr h
theorem sql {K : PySem.W.Frag} {H : Hp} {a : Addr} {xs : List V} (h : H a = some (.lst xs)) : SqL K H a xs := .inl (.inl h)
theorem sqt {K : PySem.W.Frag} {H : Hp} {a : Addr} {xs : List V} (h : H a = some (.tup xs)) : SqT K H a xs := .inl (.inl h)
theorem sz {n : Nat} (h : n ≤ 100000) : n ≤ sizeLine := Nat.le_trans h (by decide)
theorem szl {n : Nat} (h : n ≤ 100000) : n < sizeLine := Nat.lt_of_le_of_lt h (by decide)
theorem map_at {α : Type} {f : α → V} {xs : List α} {i : Nat} {y : V} (h : (xs.map f)[i]? = some y) : ∃ x, xs[i]? = some x ∧ y = f x := by
  rw [List.getElem?_map] at h
  cases e : xs[i]? with
  | none => rw [e] at h; cases h
  | some x => rw [e] at h; exact ⟨x, rfl, (Option.some.inj h).symm⟩
theorem at_map {α : Type} {f : α → V} {xs : List α} {i : Nat} {x : α} (h : xs[i]? = some x) : atI (xs.map f) (i : Int) = some (f x) := atI_nat (by rw [List.getElem?_map, h]; rfl)
theorem take_more {α : Type} {l : List α} {i : Nat} {x : α} (h : l[i]? = some x) : l.take (i + 1) = l.take i ++ [x] := by
  rw [List.take_add_one, h]; rfl
/-! deep data stands as long as what was tracked stands -/
mutual
theorem dp_same {K : PySem.W.Frag} {H H' : Hp} (e : Same H H') : ∀ (d : PyData) {v : V}, Dp K H v d → Dp K H' v d
  | _, _, .non => .non
  | _, _, .bl b => .bl b
  | _, _, .int i => .int i
  | _, _, .str x => .str x
  | .list ds, _, .lst h a => .lst (e.seq h) (dpa_same e ds a)
  | .tuple ds, _, .tup h a => .tup (sqt_same e h) (dpa_same e ds a)
theorem dpa_same {K : PySem.W.Frag} {H H' : Hp} (e : Same H H') : ∀ (ds : List PyData) {vs : List V}, DpAll K H vs ds → DpAll K H' vs ds
  | [], _, .nil => .nil
  | d :: ds, _, .cons h a => .cons (dp_same e d h) (dpa_same e ds a)
end
theorem dpa_len {K : PySem.W.Frag} {H : Hp} : ∀ {vs : List V} {ds : List PyData}, DpAll K H vs ds → vs.length = ds.length
  | _, _, .nil => rfl
  | _, _, .cons _ a => by rw [List.length_cons, List.length_cons, dpa_len a]
theorem dpa_at {K : PySem.W.Frag} {H : Hp} : ∀ {vs : List V} {ds : List PyData} {i : Nat} {v : V}, DpAll K H vs ds → vs[i]? = some v → ∃ d, ds[i]? = some d ∧ Dp K H v d
  | _, _, _, _, .nil, h => by simp at h
  | _, _, 0, _, .cons h _, e => ⟨_, rfl, by have := Option.some.inj e; subst this; exact h⟩
  | _, _, i + 1, _, .cons _ a, e => dpa_at (i := i) a (by simpa using e)
theorem dpa_app {K : PySem.W.Frag} {H : Hp} : ∀ {vs ws : List V} {ds es : List PyData}, DpAll K H vs ds → DpAll K H ws es → DpAll K H (vs ++ ws) (ds ++ es)
  | _, _, _, _, .nil, b => b
  | _, _, _, _, .cons h a, b => .cons h (dpa_app a b)
theorem eqv_self {d : PyData} (h : SeqAt.shaped d = true) : PyData.eqv d d = true := SeqAt.eqv_refl d (SeqAt.canLay_of_shaped h)
/-! data that may be compared -/
theorem layAll : ∀ {ds : List PyData}, (∀ d ∈ ds, d.canLay0 = true) → PyData.canLayAll0 ds = true
  | [], _ => rfl
  | d :: ds, h => by
    rw [PyData.canLayAll0, h d List.mem_cons_self, layAll fun e he => h e (List.mem_cons_of_mem _ he)]; rfl
theorem depAll {n : Nat} : ∀ {ds : List PyData}, (∀ d ∈ ds, d.depth ≤ n) → PyData.depthAll ds ≤ n
  | [], _ => Nat.zero_le _
  | d :: ds, h => by
    have h1 := h d List.mem_cons_self
    have h2 := depAll (ds := ds) fun e he => h e (List.mem_cons_of_mem _ he)
    simp only [PyData.depthAll]
    omega
/-- plain data of at most this depth -/
def Flat (n : Nat) (d : PyData) : Prop := d.canLay0 = true ∧ d.depth ≤ n
theorem flat_list {n : Nat} {ds : List PyData} (h : ∀ d ∈ ds, Flat n d) : Flat (n + 1) (.list ds) :=
  ⟨by rw [PyData.canLay0]; exact layAll fun d hd => (h d hd).1, by have := depAll (n := n) fun d hd => (h d hd).2; simp only [PyData.depth]; omega⟩
theorem flat_tup {n : Nat} {ds : List PyData} (h : ∀ d ∈ ds, Flat n d) : Flat (n + 1) (.tuple ds) :=
  ⟨by rw [PyData.canLay0]; exact layAll fun d hd => (h d hd).1, by have := depAll (n := n) fun d hd => (h d hd).2; simp only [PyData.depth]; omega⟩
theorem flat_int (n : Nat) (i : Int) : Flat n (.int i) := ⟨rfl, by simp [PyData.depth]⟩
theorem flat_str (n : Nat) (x : Str) (h : (PyData.str x).canLay0 = true := by decide +kernel) : Flat n (.str x) := ⟨h, by simp [PyData.depth]⟩
theorem flat_bl (n : Nat) (b : Bool) : Flat n (.bool b) := ⟨rfl, by simp [PyData.depth]⟩
theorem flat_non (n : Nat) : Flat n .none := ⟨rfl, by simp [PyData.depth]⟩
theorem Flat.mono {n m : Nat} {d : PyData} (h : Flat n d) (hm : n ≤ m) : Flat m d := ⟨h.1, Nat.le_trans h.2 hm⟩
theorem Flat.sh {n : Nat} {d : PyData} (h : Flat n d) (hn : n ≤ 64) : SeqAt.shaped d = true := by
  show (d.canLay0 && decide (d.depth ≤ 64)) = true
  rw [Bool.and_eq_true]
  exact ⟨h.1, decide_eq_true (Nat.le_trans h.2 hn)⟩
theorem tyx_t {K : PySem.W.Frag} {H : Hp} {a : Addr} {xs : List V} (h : SqT K H a xs) : TyX K H (.ref a) (.type "tuple") := by
  rcases h with (h | ⟨o, h⟩) | ⟨o, its, n, h, hc, _⟩
  · exact .base (.tup h)
  · exact .fTuple h
  · exact .kTuple h hc
theorem tyx_l {K : PySem.W.Frag} {H : Hp} {a : Addr} {xs : List V} (h : SqL K H a xs) : TyX K H (.ref a) (.type "list") := by
  rcases h with (h | ⟨o, h⟩) | ⟨o, its, n, h, hc, _⟩
  · exact .base (.lst h)
  · exact .base (.frz h)
  · exact .kList h hc
theorem same_both {G H : Hp} {t : Addr} {x : HO} (e : Same G H) : Same (upd G t x) (upd H t x) := fun b o h => by
  by_cases hb : b = t
  · subst hb; rw [upd_same] at h ⊢; exact h
  · rw [upd_ne hb] at h ⊢; exact e b o h
theorem set_self {α : Type} : ∀ {l : List α} {i : Nat} {x : α}, l[i]? = some x → l.set i x = l
  | [], i, x, h => by simp at h
  | a :: l, 0, x, h => by
    have e : a = x := Option.some.inj h
    subst e
    rfl
  | a :: l, i + 1, x, h => by
    show a :: l.set i x = a :: l
    rw [set_self (by simpa using h)]
theorem ixn {n j : Nat} {i : Int} (hi : i = (j : Int)) (hj : j < n) : ixN n i = some j := by
  unfold ixN
  rw [if_pos (by omega), if_pos (by omega)]
  congr 1
  omega
/-! shifts and masks in place -/
section
variable {X : Cx}
theorem ip_shr : PIp X .RShift (fun x y H Q => ∃ (i : Int) (k : Nat), x = .int i ∧ y = .int (k : Int) ∧ Q (.int (i / 2 ^ k)) H) := by
  intro pins s σ H x y v u Q I r1 r2 h
  obtain ⟨i, k, e1, e2, q⟩ := h
  subst e1; subst e2
  obtain ⟨t, rfl⟩ := r1
  obtain ⟨t', rfl⟩ := r2
  refine irshift_int (Int.natCast_nonneg k) ⟨.int _, H, I.tok _, ⟨_, rfl⟩, ?_⟩
  rw [Int.toNat_natCast, Int.fdiv_eq_ediv_of_nonneg _ (Int.le_of_lt (Int.pow_pos (by decide)))]
  exact q
theorem ip_or : PIp X .BitOr (fun x y H Q => ∃ (r a : Int) (k : Nat), x = .int r ∧ y = .int (a * 2 ^ k) ∧ (0 ≤ a ∧ 0 ≤ r ∧ r < 2 ^ k) ∧ Q (.int (r + a * 2 ^ k)) H) := by
  intro pins s σ H x y v u Q I r1 r2 h
  obtain ⟨r, a, k, e1, e2, ⟨h0, h1, h2⟩, q⟩ := h
  subst e1; subst e2
  obtain ⟨t, rfl⟩ := r1
  obtain ⟨t', rfl⟩ := r2
  refine ior_int ⟨.int _, H, I.tok _, ⟨_, rfl⟩, ?_⟩
  have e : Builtin.bitOr r (a * 2 ^ k) = r + a * 2 ^ k := by
    have hp : (0 : Int) ≤ a * 2 ^ k := Int.mul_nonneg h0 (Int.le_of_lt (Int.pow_pos (by decide)))
    rw [bitOr_nn h1 hp, Nat.or_comm, ← bitOr_nn hp h1, or_low h0 h1 h2, Int.add_comm]
  rw [e]
  exact q
end
theorem bits_small : ∀ n : Nat, n < 128 → Builtin.Int.intBits (n : Int) ≤ 8 := by decide +kernel
/-- isinstance(e, c) of the error that a suite holds, its class known by the reading -/
theorem call_isE1 {X : Cx} {a D : Addr} {oe : Obj} {cls : Value} {d : Option Addr} {pn : List (Addr × Obj)} (C : ExcC X.K D) (hz : Zc cls d oe) (hf : ∃ vs, oe.data = .fields vs) :
    CallR (X.suite a ((a, oe) :: pn)) (.builtin "isinstance") (fun xs H Q => cls = .ref D ∧ d = none ∧ rIsE X.K D a xs H Q) := fun pins s σ H xs us Q I r h => by
  obtain ⟨h1, h2, h⟩ := h
  subst h1
  subst h2
  exact call_isE C hz hf pins s σ H xs us Q I r h
/-! slices -/
theorem sIx_le {n d : Nat} {i : Nat} : HT.sIx n d (some (i : Int)) = min i n := HT.sIx_nat n d i
theorem cut0n (xs : List V) (j : Nat) : cutV xs none (some (j : Int)) = xs.take j := by
  unfold cutV
  rw [sIx_le, HT.sIx_none, List.drop_zero, Nat.sub_zero]
  exact (List.take_eq_take_min).symm
theorem cutnn (xs : List V) (i j : Nat) : cutV xs (some (i : Int)) (some (j : Int)) = (xs.drop i).take (j - i) := by
  unfold cutV
  rw [sIx_le, sIx_le]
  by_cases hi : i ≤ xs.length
  · rw [Nat.min_eq_left hi]
    by_cases hj : j ≤ xs.length
    · rw [Nat.min_eq_left hj]
    · rw [Nat.min_eq_right (by omega), List.take_of_length_le (by rw [List.length_drop]; omega), List.take_of_length_le (by rw [List.length_drop]; omega)]
  · have e : min i xs.length = xs.length := by omega
    rw [e, List.drop_of_length_le (Nat.le_refl _), List.drop_of_length_le (show xs.length ≤ i by omega), List.take_nil, List.take_nil]
theorem cut_ints (ns : List Int) {i j : Nat} {a b : Int} (ha : a = i) (hb : b = j) : cutV (ns.map V.int) (some a) (some b) = ((ns.drop i).take (j - i)).map V.int := by
  rw [ha, hb, cutnn, ← List.map_drop, ← List.map_take]
theorem rep_ints (ns : List Int) (k : Nat) : (List.replicate k (ns.map V.int)).flatten = (List.replicate k ns).flatten.map V.int := by
  rw [List.map_flatten, List.map_replicate]
/-- [e for x in a slice], e changes nothing -/
theorem lc_cut {K : PySem.W.Frag} {wi : TI} {te : TE} {s : Nat} {σ : L2.St} {H : Hp} {Q : VK} (xs : List V) (f : V → V)
    (hwi : ∀ R : It → Hp → Prop, (∀ p, H p = none → R (Itl K p) (upd H p (.lst xs))) → wi σ H R) (hlen : xs.length ≤ 90000)
    (hw : ∀ x, wipe ((wipe σ [s]).set s (some x)) [s] = wipe σ [s])
    (he : ∀ (i : Nat) (x : V) (G : Hp) (Q' : VK), xs[i]? = some x → Same H G → Q' (f x) G → te ((wipe σ [s]).set s (some x)) G Q')
    (k : ∀ D H', H D = none → Same H H' → H' D = some (.lst (xs.map f)) → Q (.ref D) H') : tLc wi (gName s) tYes te [s] σ H Q := by
  refine hwi _ fun p hp D hD => ?_
  have nD : D ≠ p := fun z => by rw [z, upd_same] at hD; cases hD
  have hD0 : H D = none := by rw [upd_ne nD] at hD; exact hD
  refine lc_list (K := K) (a := p) (xs := xs) (fun i H' => Same H H' ∧ H' p = some (.lst xs) ∧ H' D = some (.lst ((xs.take i).map f)))
    ⟨(same_upd hp).trans (same_upd hD), by rw [upd_ne nD.symm, upd_same], by rw [upd_same]; rfl⟩ (fun i H' _ h => sql h.2.1) (fun i x G hx hG => ?_) (fun G hG => ?_)
  · refine ⟨hw x, ?_⟩
    refine he i x G _ hx hG.1 ⟨_, hG.2.2, szl (by rw [List.length_map, List.length_take]; omega), same_put hG.1 hD0, by rw [upd_ne nD.symm]; exact hG.2.1, ?_⟩
    rw [upd_same, take_more hx, List.map_append]
    rfl
  · refine k D G hD0 hG.1 ?_
    rw [List.take_length] at hG
    exact hG.2.2
/-- lists of ints as data -/
theorem dpa_ints {K : PySem.W.Frag} {H : Hp} : ∀ ns : List Int, DpAll K H (ns.map V.int) (ns.map PyData.int)
  | [] => .nil
  | n :: ns => .cons (.int n) (dpa_ints ns)
theorem dp_ints {K : PySem.W.Frag} {H : Hp} {a : Addr} {ns : List Int} (h : SqL K H a (ns.map V.int)) : Dp K H (.ref a) (.list (ns.map PyData.int)) := .lst h (dpa_ints ns)
theorem flat_ints (ns : List Int) : Flat 1 (.list (ns.map PyData.int)) := flat_list (n := 0) fun d hd => by
  obtain ⟨i, _, rfl⟩ := List.mem_map.mp hd
  exact flat_int _ _
theorem flat_tints (ns : List Int) : Flat 1 (.tuple (ns.map PyData.int)) := flat_tup (n := 0) fun d hd => by
  obtain ⟨i, _, rfl⟩ := List.mem_map.mp hd
  exact flat_int _ _
theorem eqvAll_ints : ∀ xs ys : List Int, PyData.eqvAll (xs.map .int) (ys.map .int) = decide (xs = ys)
  | [], [] => rfl
  | [], _ :: _ => rfl
  | _ :: _, [] => rfl
  | x :: xs, y :: ys => by
    show ((x == y) && PyData.eqvAll (xs.map .int) (ys.map .int)) = _
    rw [eqvAll_ints xs ys, Bool.eq_iff_iff]
    simp
theorem eqv_ints (xs ys : List Int) : PyData.eqv (.list (xs.map .int)) (.list (ys.map .int)) = decide (xs = ys) := eqvAll_ints xs ys
theorem eqv_tints (xs ys : List Int) : PyData.eqv (.tuple (xs.map .int)) (.tuple (ys.map .int)) = decide (xs = ys) := eqvAll_ints xs ys
/-- a def with defaults that lets nothing out -/
theorem okD {P : Program} {w : World} {K : PySem.W.Frag} {mg : Str → Option Value} {base : Heap} {x qual : Str} {params : Arguments} {body : List Stmt} {scope : Scope} {dvs : List V} {kws : List (Str × V)} {f : Addr} {fd : FuncData} {N ps : List Str} {k : Nat} {sp : Sp}
    (F : FunD K x qual params body scope dvs kws f fd) (S : FnScope N ps scope) (len : ∀ vs H Q E, sp vs H Q E → vs.length = ps.length)
    (hb : ∀ (cdv : Value) (A : Around) (outer : List Env) (s : Shared) (H : Hp) (vs : List V) (Q : VK) (E : XK), Room k (A.deeper (envOfC qual scope s.heap.objs.size f cdv)) → sp vs H Q E →
      ∃ t, PSs (cxOf CX0 P w K mg base N qual scope f cdv A outer s H E).nox body t ∧ t { nx := fun _ H' => Q .non H', rt := Q } (start N vs) H) : FnOk P w K mg base CX0 (k + 1) f fd ps sp :=
  F.ok S len fun cdv A outer s H vs Q E hr h => by
    obtain ⟨t, h1, q⟩ := hb cdv A outer s H vs Q E hr h
    exact ⟨t, h1.nox, q⟩
/-! what an expression gives, whatever stands besides -/
def EI (te : TE) (σ : L2.St) (H : Hp) (v : V) : Prop := ∀ G, Same H G → ∀ Q : VK, Q v G → te σ G Q
def EA (ta : TA) (σ : L2.St) (H : Hp) (vs : List V) : Prop := ∀ G, Same H G → ∀ Q : List V → Hp → Prop, Q vs G → ta σ G Q
/-- a list, new or old -/
def EL (te : TE) (σ : L2.St) (H : Hp) (xs : List V) : Prop := ∀ G, Same H G → ∀ Q : VK, (∀ p G', Same G G' → G' p = some (.lst xs) → Q (.ref p) G') → te σ G Q
section
variable {K : PySem.W.Frag} {σ : L2.St} {H : Hp} {ta tb te : TE} {x y z v : V} {xs ys : List V}
theorem ei_var {i : Nat} (h : σ[i]? = some (some v)) : EI (tVar i) σ H v := fun _ _ _ q => ⟨v, h, q⟩
theorem ei_c : EI (tC v) σ H v := fun _ _ _ q => q
theorem ei_op {r : R2} (ha : EI ta σ H x) (hb : EI tb σ H y) (hr : ∀ G, Same H G → ∀ Q : VK, Q z G → r x y G Q) : EI (tOp r ta tb) σ H z := fun G s Q q => ha G s _ (hb G s _ (hr G s Q q))
theorem ei_i0 {g : Int → Int → V} {i j : Int} (ha : EI ta σ H (.int i)) (hb : EI tb σ H (.int j)) : EI (tOp (rI0 g) ta tb) σ H (g i j) := ei_op ha hb fun _ _ _ q => ⟨i, j, rfl, rfl, q⟩
theorem ei_ic {C : Int → Int → Prop} {g : Int → Int → V} {i j : Int} (ha : EI ta σ H (.int i)) (hb : EI tb σ H (.int j)) (hc : C i j) : EI (tOp (rI C g) ta tb) σ H (g i j) := ei_op ha hb fun _ _ _ q => ⟨i, j, rfl, rfl, hc, q⟩
theorem ea_nil : EA tNil σ H [] := fun _ _ _ q => q
theorem ea_cons {tr : TA} {vs : List V} (h : EI ta σ H x) (g : EA tr σ H vs) : EA (tCons ta tr) σ H (x :: vs) := fun G s _ q => h G s _ (g G s _ q)
theorem ei_cb {r : List V → Hp → VK → Prop} {tr : TA} {vs : List V} (ha : EA tr σ H vs) (hr : ∀ G, Same H G → ∀ Q : VK, Q z G → r vs G Q) : EI (tCB r tr) σ H z := fun G s Q q => ha G s _ (hr G s Q q)
/-- len of a list, list(..) of a list or a tuple, as they are read -/
def rLen (K : PySem.W.Frag) : List V → Hp → VK → Prop := fun xs H Q => ∃ p ys, xs = [.ref p] ∧ (SqL K H p ys ∨ SqT K H p ys) ∧ Q (.int ys.length) H
def rLst (K : PySem.W.Frag) : List V → Hp → VK → Prop := fun xs H Q => ∃ p ys, xs = [.ref p] ∧ (SqL K H p ys ∨ SqT K H p ys) ∧ ∀ l, H l = none → Q (.ref l) (upd H l (.lst ys))
def rTup (K : PySem.W.Frag) : List V → Hp → VK → Prop := fun xs H Q => ∃ p ys, xs = [.ref p] ∧ ((SqL K H p ys ∧ ∀ l, H l = none → Q (.ref l) (upd H l (.tup ys))) ∨ (SqT K H p ys ∧ Q (.ref p) H))
theorem callK_tuple {X : Cx} (h : X.K = K) : CallR X (.type "tuple") (rTup K) := by subst h; exact call_tuple_of
theorem callK_list {X : Cx} (h : X.K = K) : CallR X (.type "list") (rLst K) := by subst h; exact call_list_of
theorem opK_catA {X : Cx} (h : X.K = K) : OpR X (binaryOp .Add) (rCatA K) := by subst h; exact op_catA
theorem ixK_list {X : Cx} (h : X.K = K) : IxR X (rIxL K) := by subst h; exact ix_list
theorem ixK_tup {X : Cx} (h : X.K = K) : IxR X (rIxT K) := by subst h; exact ix_tup
theorem pe_fldK {X : Cx} {e : Expr} {f : Str} {pos : Pos} {ta : TE} (h : X.K = K) (he : PE X e ta) (hb : attributeBase e f X.env (eval e X.env) = eval e X.env) : PE X (.Attribute e f pos) (tFld K ta f) := by subst h; exact pe_fld he hb
theorem callK_len {X : Cx} (h : X.K = K) : CallR X (.builtin "len") (rLen K) := by subst h; exact call_len_seq
theorem ei_lenL {i : Nat} {p : Addr} (h : σ[i]? = some (some (.ref p))) (e : SqL K H p xs) : EI (tCB (rLen K) (tCons (tVar i) tNil)) σ H (.int (xs.length : Int)) := ei_cb (ea_cons (ei_var h) ea_nil) fun _ s _ q => ⟨p, xs, rfl, .inl (s.seq e), q⟩
theorem ei_lenT {i : Nat} {p : Addr} (h : σ[i]? = some (some (.ref p))) (e : SqT K H p xs) : EI (tCB (rLen K) (tCons (tVar i) tNil)) σ H (.int (xs.length : Int)) := ei_cb (ea_cons (ei_var h) ea_nil) fun _ s _ q => ⟨p, xs, rfl, .inr (sqt_same s e), q⟩
theorem ei_fld {i : Nat} {p C dx : Addr} {fs : List (Str × V)} {f : Str} (h : σ[i]? = some (some (.ref p))) (hp : H p = some (.ins C dx fs)) (c : Cls K C) (n : NoAttr K C f) (l : fs.lookup f = some v) : EI (tFld K (tVar i) f) σ H v := fun _ s _ q => ⟨.ref p, h, p, C, dx, fs, v, rfl, s _ _ hp, c, n, l, q⟩
theorem ei_din {td : TE} {d : Addr} {kvs : List (Key × V)} {k : Key} (hy : EI te σ H (kV k)) (hd : EI td σ H (.ref d)) (e : H d = some (.dK kvs)) : EI (tDIn te td) σ H (.bl (valV kvs k).isSome) := fun G s _ q => hy G s _ (hd G s _ ⟨d, _, rfl, DGet.k (s _ _ e), q⟩)
theorem ei_dnotin {td : TE} {d : Addr} {kvs : List (Key × V)} {k : Key} (hy : EI te σ H (kV k)) (hd : EI td σ H (.ref d)) (e : H d = some (.dK kvs)) : EI (tDNotIn te td) σ H (.bl (!(valV kvs k).isSome)) := fun G s _ q => hy G s _ (hd G s _ ⟨d, _, rfl, DGet.k (s _ _ e), q⟩)
theorem ei_dget {td : TE} {d : Addr} {kvs : List (Key × V)} {k : Key} (hy : EI te σ H (kV k)) (hd : EI td σ H (.ref d)) (e : H d = some (.dK kvs)) (hv : valV kvs k = some v) : EI (tDGet td te) σ H v := fun G s _ q => hd G s _ (hy G s _ ⟨d, v, rfl, by rw [← hv]; exact DGet.k (s _ _ e), q⟩)
theorem ei_ixL {p : Addr} {j : Int} (ha : EI ta σ H (.ref p)) (hi : EI tb σ H (.int j)) (e : SqL K H p xs) (h : atI xs j = some v) : EI (tOp (rIxL K) ta tb) σ H v := ei_op ha hi fun _ s _ q => ⟨p, xs, j, v, rfl, rfl, s.seq e, h, q⟩
theorem ei_ixT {p : Addr} {j : Int} (ha : EI ta σ H (.ref p)) (hi : EI tb σ H (.int j)) (e : SqT K H p xs) (h : atI xs j = some v) : EI (tOp (rIxT K) ta tb) σ H v := ei_op ha hi fun _ s _ q => ⟨p, xs, j, v, rfl, rfl, sqt_same s e, h, q⟩
theorem ei_eq (ha : EI ta σ H x) (hb : EI tb σ H y) (h : scal x y = true) : EI (tOp rEq ta tb) σ H (.bl (decide (x = y))) := ei_op ha hb fun _ _ _ q => ⟨h, q⟩
theorem ei_ne (ha : EI ta σ H x) (hb : EI tb σ H y) (h : scal x y = true) : EI (tOp rNe ta tb) σ H (.bl (!decide (x = y))) := ei_op ha hb fun _ _ _ q => ⟨h, q⟩
/-- a test by its value -/
theorem tt_use {b : Bool} {Q : Bool → Hp → Prop} (h : EI te σ H (.bl b)) (k : Q b H) : tTest te σ H Q := h H (Same.refl _) _ ⟨b, rfl, k⟩
theorem tb_use {b : Bool} {Q : Bool → Hp → Prop} (h : EI te σ H (.bl b)) (k : Q b H) : tB te σ H Q := h H (Same.refl _) _ ⟨b, rfl, k⟩
theorem el_var {i : Nat} {p : Addr} (h : σ[i]? = some (some (.ref p))) (e : H p = some (.lst xs)) : EL (tVar i) σ H xs := fun G s _ q => ⟨.ref p, h, q p G (Same.refl _) (s _ _ e)⟩
/-- a new list -/
def EN (te : TE) (σ : L2.St) (H : Hp) (xs : List V) : Prop := ∀ G, Same H G → ∀ Q : VK, (∀ p G', G p = none → Same G G' → G' p = some (.lst xs) → Q (.ref p) G') → te σ G Q
theorem EN.el (h : EN te σ H xs) : EL te σ H xs := fun G s Q q => h G s Q fun p G' _ => q p G'
theorem en_lst {tr : TA} {vs : List V} (ha : EA tr σ H vs) (hl : vs.length ≤ 90000) : EN (tLst tr) σ H vs := fun G s _ q => ha G s _ ⟨sz (by omega), fun p hp => q p _ hp (same_upd hp) upd_same⟩
theorem en_cat (ha : EL ta σ H xs) (hb : EL tb σ H ys) (hl : xs.length + ys.length ≤ 90000) : EN (tOp rCat ta tb) σ H (xs ++ ys) := fun G s _ q =>
  ha G s _ fun p G1 s1 e1 => hb G1 (s.trans s1) _ fun p2 G2 s2 e2 => ⟨p, p2, xs, ys, rfl, rfl, s2 _ _ e1, e2, sz (by omega), fun p3 h3 => q p3 _ ((s1.trans s2).free h3) ((s1.trans s2).trans (same_upd h3)) upd_same⟩
theorem en_rep {k : Int} (ha : EL ta σ H xs) (hb : EI tb σ H (.int k)) (h1 : -1000000 ≤ k) (h2 : k ≤ 1000000) (hl : xs.length * k.toNat ≤ 90000) : EN (tOp rRep ta tb) σ H (List.replicate k.toNat xs).flatten := fun G s _ q =>
  ha G s _ fun p G1 s1 e1 => hb G1 (s.trans s1) _ ⟨p, k, xs, rfl, rfl, e1, by omega, by omega, sz (by omega), fun p3 h3 => q p3 _ (s1.free h3) (s1.trans (same_upd h3)) upd_same⟩
theorem el_lst {tr : TA} {vs : List V} (ha : EA tr σ H vs) (hl : vs.length ≤ 90000) : EL (tLst tr) σ H vs := (en_lst ha hl).el
theorem el_cat (ha : EL ta σ H xs) (hb : EL tb σ H ys) (hl : xs.length + ys.length ≤ 90000) : EL (tOp rCat ta tb) σ H (xs ++ ys) := (en_cat ha hb hl).el
theorem el_rep {k : Int} (ha : EL ta σ H xs) (hb : EI tb σ H (.int k)) (h1 : -1000000 ≤ k) (h2 : k ≤ 1000000) (hl : xs.length * k.toNat ≤ 90000) : EL (tOp rRep ta tb) σ H (List.replicate k.toNat xs).flatten := (en_rep ha hb h1 h2 hl).el
theorem el_cb {r : List V → Hp → VK → Prop} {tr : TA} {vs : List V} (ha : EA tr σ H vs) (hr : ∀ G, Same H G → ∀ Q : VK, (∀ p G', Same G G' → G' p = some (.lst xs) → Q (.ref p) G') → r vs G Q) : EL (tCB r tr) σ H xs := fun G s Q q => ha G s _ (hr G s Q q)
theorem el_call {sp : Sp} {dvs : List V} {E : XK} {tr : TA} {vs : List V} (ha : EA tr σ H vs) (hr : ∀ G, Same H G → ∀ Q : VK, (∀ p G', Same G G' → G' p = some (.lst xs) → Q (.ref p) G') → sp (vs ++ dvs) G Q E) : EL (tCall sp dvs E tr) σ H xs := fun G s Q q => ha G s _ (hr G s Q q)
theorem el_listL {i : Nat} {p : Addr} (h : σ[i]? = some (some (.ref p))) (e : SqL K H p xs) : EL (tCB (rLst K) (tCons (tVar i) tNil)) σ H xs := el_cb (ea_cons (ei_var h) ea_nil) fun _ s _ q => ⟨p, xs, rfl, .inl (s.seq e), fun l hl => q l _ (same_upd hl) upd_same⟩
theorem el_listT {i : Nat} {p : Addr} (h : σ[i]? = some (some (.ref p))) (e : SqT K H p xs) : EL (tCB (rLst K) (tCons (tVar i) tNil)) σ H xs := el_cb (ea_cons (ei_var h) ea_nil) fun _ s _ q => ⟨p, xs, rfl, .inr (sqt_same s e), fun l hl => q l _ (same_upd hl) upd_same⟩
/-- x = an expression that gives a list -/
theorem EL.use {Q : VK} (h : EL te σ H xs) (k : ∀ p H', Same H H' → H' p = some (.lst xs) → Q (.ref p) H') : te σ H Q := h H (Same.refl _) Q k
theorem EN.use {Q : VK} (h : EN te σ H xs) (k : ∀ p H', H p = none → Same H H' → H' p = some (.lst xs) → Q (.ref p) H') : te σ H Q := h H (Same.refl _) Q k
theorem EI.use {Q : VK} (h : EI te σ H v) (k : Q v H) : te σ H Q := h H (Same.refl _) Q k
end
/-- defaults: what is bound where keywords give the rest -/
theorem kb_one {K : PySem.W.Frag} {x qual : Str} {params : Arguments} {body : List Stmt} {scope : Scope} {dvs : List V} {f : Addr} {fd : FuncData} {ps : List Str} (F : FunD K x qual params body scope dvs [] f fd) (n : Nat) (ks : List Str) (hd : dvs ≠ [])
    (h : ∀ (T : Addr) (kV doc pm : Value) (an : Option Addr) (cdv ct : Value) (us ws its : List Value), us.length = n → ws.length = ks.length → its.length = dvs.length →
      ∃ k, bindArgs (PySem.W.fnOf x qual params body scope (.ref T) kV doc pm an cdv ct) ⟨us, ks.zip ws⟩ = seqItems? (.ref T) >>= k ∧ k (some its.toArray) = pure (ps.zip (us ++ ws))) :
    KBn K fd ps n ks (fun us ws => us ++ ws) (fun vs zs => vs ++ zs) := by
  obtain ⟨oc, od, dV, kV, doc, pm, an, cdv, ct, osl, rfl, lk, hcd, hD, hK⟩ := F.ex
  rcases hD with ⟨e, _⟩ | ⟨_, T, o, its, m, rfl, lT, oT, rT⟩
  · exact absurd e hd
  · refine ⟨fun s us ws X h1 h2 => BindsTo.of_looks fun M => ?_, fun r1 r2 => r1.append r2⟩
    obtain ⟨k, e1, e2⟩ := h T kV doc pm an cdv ct us ws its h1 h2 rT.length.symm
    rw [e1]
    exact looks_items X lT oT (.of_pure e2)
theorem andV_use {ta tb : TE} {σ : L2.St} {H : Hp} {Q : VK} {x y : Bool} (h1 : EI ta σ H (.bl x)) (h2 : x = true → ∀ Q' : VK, (∀ H', Same H H' → Q' (.bl y) H') → tb σ H Q') (k : ∀ H', Same H H' → Q (.bl (x && y)) H') : tAndV ta tb σ H Q := by
  refine h1 H (Same.refl _) _ ⟨x, rfl, ?_⟩
  cases x with
  | true => exact (if_pos rfl).mpr (h2 rfl _ k)
  | false => exact (if_neg Bool.false_ne_true).mpr (k H (Same.refl _))
/-- what is locked and let go stands as it stood -/
theorem unlock {H H' : Hp} {d : Addr} {od : Obj} {u : HO} (e : H d = some u) (s : Same (upd H d (.frz od u)) H') : Same H (upd H' d u) := fun b o h => by
  by_cases hb : b = d
  · subst hb
    rw [upd_same, ← e]
    exact h
  · rw [upd_ne hb]
    exact s b o (by rw [upd_ne hb]; exact h)
theorem take_filter {α : Type} {l : List α} {i : Nat} {x : α} (f : α → Bool) (h : l[i]? = some x) : (l.take (i + 1)).filter f = (l.take i).filter f ++ if f x then [x] else [] := by
  rw [take_more h, List.filter_append]
  cases e : f x <;> simp [e]
/-- [e for k in d if t] over the keys of a dict, t and e change nothing -/
theorem lc_keys {td te : TE} {tt : TT} {s : Nat} {σ : L2.St} {H : Hp} {Q : VK} (d : Addr) (kvs : List (Key × V)) (f : Key → Bool) (g : Key → V) (e : H d = some (.dK kvs)) (hlen : kvs.length ≤ 90000)
    (htd : ∀ od, EI td σ (upd H d (.frz od (.dK kvs))) (.ref d))
    (hw : ∀ x, wipe ((wipe σ [s]).set s (some x)) [s] = wipe σ [s])
    (ht : ∀ (od : Obj) (i : Nat) (k : Key) (v : V) (G : Hp) (Q' : Bool → Hp → Prop), kvs[i]? = some (k, v) → Same (upd H d (.frz od (.dK kvs))) G → Q' (f k) G → tt ((wipe σ [s]).set s (some (kV k))) G Q')
    (he : ∀ (od : Obj) (i : Nat) (k : Key) (v : V) (G : Hp) (Q' : VK), kvs[i]? = some (k, v) → Same (upd H d (.frz od (.dK kvs))) G → Q' (g k) G → te ((wipe σ [s]).set s (some (kV k))) G Q')
    (k : ∀ D H', H D = none → Same H H' → H' D = some (.lst ((kvs.filter fun kv => f kv.1).map fun kv => g kv.1)) → Q (.ref D) H') : tLockE (tLc (iKeys td) (gName s) tt te [s]) σ H Q := by
  refine ⟨d, _, e, trivial, fun od => htd od _ (Same.refl _) _ ⟨d, od, rfl, .inl ⟨kvs, upd_same, fun D hD => ?_⟩⟩⟩
  have nD : D ≠ d := fun z => by rw [z, upd_same] at hD; cases hD
  have hD0 : H D = none := by rw [upd_ne nD] at hD; exact hD
  refine lc_it walk_keys (fun i G => Same (upd H d (.frz od (.dK kvs))) G ∧ G D = some (.lst (((kvs.take i).filter fun kv => f kv.1).map fun kv => g kv.1)))
    ⟨same_upd hD, upd_same⟩ (fun i G _ h => h.1 _ _ upd_same) (fun i x G G' hi hG hy => ?_) (fun G hG => ?_)
  · obtain ⟨rfl, key, v, hkv, rfl⟩ := hy
    have hfl : ((kvs.take i).filter fun kv => f kv.1).length ≤ 90000 := Nat.le_trans (List.length_filter_le _ _) (by rw [List.length_take]; omega)
    refine ⟨hw _, ht od i key v _ _ hkv hG.1 ?_⟩
    have hts := take_filter (fun kv : Key × V => f kv.1) hkv
    cases hf : f key with
    | true =>
      refine (if_pos rfl).mpr (he od i key v _ _ hkv hG.1 ⟨_, hG.2, szl (by rw [List.length_map]; omega), same_put hG.1 hD, ?_⟩)
      rw [upd_same, hts, List.map_append]
      simp only [hf, if_true]
      rfl
    | false =>
      refine (if_neg Bool.false_ne_true).mpr ⟨hG.1, ?_⟩
      rw [hts]
      simp only [hf, Bool.false_eq_true, if_false, List.append_nil]
      exact hG.2
  · rw [List.take_length] at hG
    refine ⟨hG.1 _ _ upd_same, k D _ hD0 (unlock e hG.1) ?_⟩
    rw [upd_ne nD]
    exact hG.2
theorem put_fresh {kvs : List (Key × V)} {k : Key} {v : V} (h : ∀ kv ∈ kvs, kv.1 ≠ k) : putK kvs k v = kvs ++ [(k, v)] := by
  unfold putK
  rw [if_neg]
  intro z
  obtain ⟨kv, hm, hk⟩ := List.any_eq_true.mp z
  exact h kv hm (of_decide_eq_true hk)
theorem nd_ne {α β : Type} {l : List (α × β)} {i : Nat} {x : α × β} (nd : (l.map (·.1)).Nodup) (h : l[i]? = some x) : ∀ y ∈ l.take i, y.1 ≠ x.1 := fun y hy z => by
  obtain ⟨j, hj, rfl⟩ := List.getElem_of_mem hy
  rw [List.length_take] at hj
  rw [List.getElem_take] at z
  obtain ⟨hi, rfl⟩ := List.getElem?_eq_some_iff.mp h
  have e1 : (l.map (·.1))[j]? = some l[i].1 := by rw [List.getElem?_map, List.getElem?_eq_getElem (by omega), ← z]; rfl
  have e2 : (l.map (·.1))[i]? = some l[i].1 := by rw [List.getElem?_map, List.getElem?_eq_getElem hi]; rfl
  have := nd_ix nd e1 e2
  omega
/-- {k: e for k in d if t} over the keys of a dict -/
theorem dc_keys {td tv : TE} {tt : TT} {s : Nat} {σ : L2.St} {H : Hp} {Q : VK} (d : Addr) (kvs : List (Key × V)) (f : Key → Bool) (g : Key × V → V) (e : H d = some (.dK kvs)) (hlen : kvs.length ≤ 90000) (nd : (kvs.map (·.1)).Nodup)
    (htd : ∀ od, EI td σ (upd H d (.frz od (.dK kvs))) (.ref d))
    (hw : ∀ x, wipe ((wipe σ [s]).set s (some x)) [s] = wipe σ [s])
    (ht : ∀ (od : Obj) (i : Nat) (k : Key) (v : V) (G : Hp) (Q' : Bool → Hp → Prop), kvs[i]? = some (k, v) → Same (upd H d (.frz od (.dK kvs))) G → Q' (f k) G → tt ((wipe σ [s]).set s (some (kV k))) G Q')
    (he : ∀ (od : Obj) (i : Nat) (k : Key) (v : V) (G : Hp) (Q' : VK), kvs[i]? = some (k, v) → f k = true → Same (upd H d (.frz od (.dK kvs))) G → Q' (g (k, v)) G → tv ((wipe σ [s]).set s (some (kV k))) G Q')
    (hn : ∀ i, (wipe σ [s]).length = i → s < i)
    (k : ∀ D H', H D = none → Same H H' → H' D = some (.dK ((kvs.filter fun kv => f kv.1).map fun kv => (kv.1, g kv))) → Q (.ref D) H') : tLockE (tDc (iKeys td) (gName s) tt (tVar s) tv [s]) σ H Q := by
  have hs : s < (wipe σ [s]).length := hn _ rfl
  refine ⟨d, _, e, trivial, fun od => htd od _ (Same.refl _) _ ⟨d, od, rfl, .inl ⟨kvs, upd_same, fun D hD => ?_⟩⟩⟩
  have nD : D ≠ d := fun z => by rw [z, upd_same] at hD; cases hD
  have hD0 : H D = none := by rw [upd_ne nD] at hD; exact hD
  let Pv : Nat → Hp → Prop := fun i G => Same (upd H d (.frz od (.dK kvs))) G ∧ G D = some (.dK (((kvs.take i).filter fun kv => f kv.1).map fun kv => (kv.1, g kv)))
  have step : ∀ i x G G', i < kvs.length → Pv i G → (G' = G ∧ ∃ k v, kvs[i]? = some (k, v) ∧ x = kV k) → gName s x (wipe σ [s]) G' fun σ2 H2 => wipe σ2 [s] = wipe σ [s] ∧ tt σ2 H2 fun b H3 =>
      if b = true then tVar s σ2 H3 fun y H4 => tv σ2 H4 fun z H5 => ∃ kvs' k', y = kV k' ∧ H5 D = some (.dK kvs') ∧ kvs'.length < sizeLine ∧ Pv (i + 1) (upd H5 D (.dK (putK kvs' k' z))) else Pv (i + 1) H3 := fun i x G G' hi hG hy => by
    obtain ⟨rfl, key, v, hkv, rfl⟩ := hy
    have hfl : ((kvs.take i).filter fun kv => f kv.1).length ≤ 90000 := Nat.le_trans (List.length_filter_le _ _) (by rw [List.length_take]; omega)
    refine ⟨hw _, ht od i key v _ _ hkv hG.1 ?_⟩
    have hts := take_filter (fun kv : Key × V => f kv.1) hkv
    cases hf : f key with
    | true =>
      refine (if_pos rfl).mpr ⟨kV key, by rw [List.getElem?_set_self hs], he od i key v _ _ hkv hf hG.1 ⟨_, key, rfl, hG.2, szl (by rw [List.length_map]; omega), same_put hG.1 hD, ?_⟩⟩
      rw [upd_same, hts, List.map_append, put_fresh]
      · simp only [hf, if_true]
        rfl
      · intro kv hm
        obtain ⟨y, hy, rfl⟩ := List.mem_map.mp hm
        exact nd_ne nd hkv y (List.mem_filter.mp hy).1
    | false =>
      refine (if_neg Bool.false_ne_true).mpr ⟨hG.1, ?_⟩
      rw [hts]
      simp only [hf, Bool.false_eq_true, if_false, List.append_nil]
      exact hG.2
  refine ⟨fun i m G => m = kvs.length - i ∧ i ≤ kvs.length ∧ Pv i G, ⟨kvs.length, by simp, Nat.zero_le _, same_upd hD, upd_same⟩, ?_⟩
  rintro i m G ⟨rfl, hi, hP⟩
  by_cases hlt : i < kvs.length
  · exact .inr ⟨⟨hP.1 _ _ upd_same, hlt⟩, Pv (i + 1), fun G' p' => ⟨kvs.length - (i + 1), by omega, rfl, hlt, p'⟩, fun x G' y => step i x G G' hlt hP y⟩
  · have ei : i = kvs.length := by omega
    subst ei
    obtain ⟨h1, h2⟩ := hP
    rw [List.take_length] at h2
    refine .inl ⟨⟨h1 _ _ upd_same, Nat.le_refl _⟩, h1 _ _ upd_same, k D _ hD0 (unlock e h1) ?_⟩
    rw [upd_ne nD]
    exact h2
end My
local macro_rules | `(tactic| walk_at "go") => `(tactic| try dsimp only [L2.gName, L2.tSeq, L2.tAsg, L2.tNext, L2.tDrop])
namespace My
open PySem PySem.Spec PyProof.Rows L2
def topS (i : Nat) : Stmt := PySem.Challenge.pw_majordomo_k17_slots_in_order.main.body.getD i (.Pass ⟨0, 0, 0, 0⟩)
abbrev s_Slots___init__ : Stmt := (inClass (topS 1) 0)
theorem sc_Slots___init__ : FnScope ["self"] ["self"] (defScope s_Slots___init__) := ⟨rfl, rfl, rfl, by decide +kernel, rfl, by decide +kernel, by decide +kernel⟩
abbrev s_Slots_learn : Stmt := (inClass (topS 1) 1)
theorem sc_Slots_learn : FnScope ["self", "slot", "value"] ["self", "slot", "value"] (defScope s_Slots_learn) := ⟨rfl, rfl, rfl, by decide +kernel, rfl, by decide +kernel, by decide +kernel⟩
abbrev s_Slots_take : Stmt := (inClass (topS 1) 2)
theorem sc_Slots_take : FnScope ["self", "taken"] ["self"] (defScope s_Slots_take) := ⟨rfl, rfl, rfl, by decide +kernel, rfl, by decide +kernel, by decide +kernel⟩
abbrev s_Slots_is_behind : Stmt := (inClass (topS 1) 3)
theorem sc_Slots_is_behind : FnScope ["self", "slot"] ["self"] (defScope s_Slots_is_behind) := ⟨rfl, rfl, rfl, by decide +kernel, rfl, by decide +kernel, by decide +kernel⟩
abbrev s_Slots_value_at : Stmt := (inClass (topS 1) 4)
theorem sc_Slots_value_at : FnScope ["self", "slot"] ["self", "slot"] (defScope s_Slots_value_at) := ⟨rfl, rfl, rfl, by decide +kernel, rfl, by decide +kernel, by decide +kernel⟩
abbrev s_Slots_cut : Stmt := (inClass (topS 1) 5)
theorem sc_Slots_cut : FnScope ["self", "base"] ["self", "base"] (defScope s_Slots_cut) := ⟨rfl, rfl, rfl, by decide +kernel, rfl, by decide +kernel, by decide +kernel⟩
abbrev s_Slots_jump : Stmt := (inClass (topS 1) 6)
theorem sc_Slots_jump : FnScope ["self", "base"] ["self", "base"] (defScope s_Slots_jump) := ⟨rfl, rfl, rfl, by decide +kernel, rfl, by decide +kernel, by decide +kernel⟩
abbrev s_Slots__forget_below : Stmt := (inClass (topS 1) 7)
theorem sc_Slots__forget_below : FnScope ["self", "base", "slot"] ["self", "base"] (defScope s_Slots__forget_below) := ⟨rfl, rfl, rfl, by decide +kernel, rfl, by decide +kernel, by decide +kernel⟩
abbrev s__law_draws : Stmt := (topS 3)
theorem sc__law_draws : FnScope ["script", "draws", "k", "cell", "turn", "mixed"] ["script"] (defScope s__law_draws) := ⟨rfl, rfl, rfl, by decide +kernel, rfl, by decide +kernel, by decide +kernel⟩
abbrev s__law_is_alike : Stmt := (topS 4)
theorem sc__law_is_alike : FnScope ["slots", "model", "field", "behind", "told", "slot", "due", "one"] ["slots", "model"] (defScope s__law_is_alike) := ⟨rfl, rfl, rfl, by decide +kernel, rfl, by decide +kernel, by decide +kernel⟩
abbrev s__law_taken : Stmt := (topS 5)
theorem sc__law_taken : FnScope ["model", "taken", "turn"] ["model"] (defScope s__law_taken) := ⟨rfl, rfl, rfl, by decide +kernel, rfl, by decide +kernel, by decide +kernel⟩
abbrev s__law_forget : Stmt := (topS 6)
theorem sc__law_forget : FnScope ["model", "base", "kept", "slot"] ["model", "base"] (defScope s__law_forget) := ⟨rfl, rfl, rfl, by decide +kernel, rfl, by decide +kernel, by decide +kernel⟩
abbrev s_law : Stmt := (topS 7)
theorem sc_law : FnScope ["script", "draws", "slots", "model", "k", "one", "other", "slot", "is_new", "told", "due", "actual", "base"] ["script"] (defScope s_law) := ⟨rfl, rfl, rfl, by decide +kernel, rfl, by decide +kernel, by decide +kernel⟩

structure TX (K : PySem.W.Frag) (mg : Str → Option Value) where
  a_Slots : Addr
  a_Slots___init__ : Addr
  d_Slots___init__ : FuncData
  F_Slots___init__ : Fun K "__init__" "Slots.__init__" s_Slots___init__ a_Slots___init__ d_Slots___init__
  b_Slots___init__ : Binds K d_Slots___init__ ["self"] []
  a_Slots_learn : Addr
  d_Slots_learn : FuncData
  F_Slots_learn : Fun K "learn" "Slots.learn" s_Slots_learn a_Slots_learn d_Slots_learn
  b_Slots_learn : Binds K d_Slots_learn ["self", "slot", "value"] []
  m_Slots_learn : Meth K a_Slots "learn" a_Slots_learn
  a_Slots_take : Addr
  d_Slots_take : FuncData
  F_Slots_take : Fun K "take" "Slots.take" s_Slots_take a_Slots_take d_Slots_take
  b_Slots_take : Binds K d_Slots_take ["self"] []
  m_Slots_take : Meth K a_Slots "take" a_Slots_take
  a_Slots_is_behind : Addr
  d_Slots_is_behind : FuncData
  F_Slots_is_behind : Fun K "is_behind" "Slots.is_behind" s_Slots_is_behind a_Slots_is_behind d_Slots_is_behind
  b_Slots_is_behind : Binds K d_Slots_is_behind ["self"] []
  m_Slots_is_behind : Meth K a_Slots "is_behind" a_Slots_is_behind
  a_Slots_value_at : Addr
  d_Slots_value_at : FuncData
  F_Slots_value_at : Fun K "value_at" "Slots.value_at" s_Slots_value_at a_Slots_value_at d_Slots_value_at
  b_Slots_value_at : Binds K d_Slots_value_at ["self", "slot"] []
  m_Slots_value_at : Meth K a_Slots "value_at" a_Slots_value_at
  a_Slots_cut : Addr
  d_Slots_cut : FuncData
  F_Slots_cut : Fun K "cut" "Slots.cut" s_Slots_cut a_Slots_cut d_Slots_cut
  b_Slots_cut : Binds K d_Slots_cut ["self", "base"] []
  m_Slots_cut : Meth K a_Slots "cut" a_Slots_cut
  a_Slots_jump : Addr
  d_Slots_jump : FuncData
  F_Slots_jump : Fun K "jump" "Slots.jump" s_Slots_jump a_Slots_jump d_Slots_jump
  b_Slots_jump : Binds K d_Slots_jump ["self", "base"] []
  m_Slots_jump : Meth K a_Slots "jump" a_Slots_jump
  a_Slots__forget_below : Addr
  d_Slots__forget_below : FuncData
  F_Slots__forget_below : Fun K "_forget_below" "Slots._forget_below" s_Slots__forget_below a_Slots__forget_below d_Slots__forget_below
  b_Slots__forget_below : Binds K d_Slots__forget_below ["self", "base"] []
  m_Slots__forget_below : Meth K a_Slots "_forget_below" a_Slots__forget_below
  a__law_draws : Addr
  d__law_draws : FuncData
  F__law_draws : Fun K "_law_draws" "_law_draws" s__law_draws a__law_draws d__law_draws
  b__law_draws : Binds K d__law_draws ["script"] []
  g__law_draws : mg "_law_draws" = some (.ref a__law_draws)
  a__law_is_alike : Addr
  d__law_is_alike : FuncData
  F__law_is_alike : Fun K "_law_is_alike" "_law_is_alike" s__law_is_alike a__law_is_alike d__law_is_alike
  b__law_is_alike : Binds K d__law_is_alike ["slots", "model"] []
  g__law_is_alike : mg "_law_is_alike" = some (.ref a__law_is_alike)
  a__law_taken : Addr
  d__law_taken : FuncData
  F__law_taken : Fun K "_law_taken" "_law_taken" s__law_taken a__law_taken d__law_taken
  b__law_taken : Binds K d__law_taken ["model"] []
  g__law_taken : mg "_law_taken" = some (.ref a__law_taken)
  a__law_forget : Addr
  d__law_forget : FuncData
  F__law_forget : Fun K "_law_forget" "_law_forget" s__law_forget a__law_forget d__law_forget
  b__law_forget : Binds K d__law_forget ["model", "base"] []
  g__law_forget : mg "_law_forget" = some (.ref a__law_forget)
  a_law : Addr
  d_law : FuncData
  F_law : Fun K "law" "law" s_law a_law d_law
  b_law : Binds K d_law ["script"] []
  g_law : mg "law" = some (.ref a_law)
  K_Slots : Cls K a_Slots
  g_Slots : mg "Slots" = some (.ref a_Slots)
  M_Slots : Mk K a_Slots a_Slots___init__
  na_Slots_base : NoAttr K a_Slots "base"
  na_Slots_applied : NoAttr K a_Slots "applied"
  na_Slots__known : NoAttr K a_Slots "_known"
  n_range : mg "range" = none
  n_min : mg "min" = none
  n_len : mg "len" = none
  n_abs : mg "abs" = none
  n_int : mg "int" = none
  n_any : mg "any" = none
  n_isinstance : mg "isinstance" = none
  n_bool : mg "bool" = none
  n_max : mg "max" = none
  n_list : mg "list" = none

theorem ne_Slots_base_applied : (Str.ofString "base" == Str.ofString "applied") = false := by decide +kernel
theorem ne_Slots_base_applied_p : ¬ (Str.ofString "base" = Str.ofString "applied") := by decide +kernel
theorem ne_Slots_base__known : (Str.ofString "base" == Str.ofString "_known") = false := by decide +kernel
theorem ne_Slots_base__known_p : ¬ (Str.ofString "base" = Str.ofString "_known") := by decide +kernel
theorem ne_Slots_applied_base : (Str.ofString "applied" == Str.ofString "base") = false := by decide +kernel
theorem ne_Slots_applied_base_p : ¬ (Str.ofString "applied" = Str.ofString "base") := by decide +kernel
theorem ne_Slots_applied__known : (Str.ofString "applied" == Str.ofString "_known") = false := by decide +kernel
theorem ne_Slots_applied__known_p : ¬ (Str.ofString "applied" = Str.ofString "_known") := by decide +kernel
theorem ne_Slots__known_base : (Str.ofString "_known" == Str.ofString "base") = false := by decide +kernel
theorem ne_Slots__known_base_p : ¬ (Str.ofString "_known" = Str.ofString "base") := by decide +kernel
theorem ne_Slots__known_applied : (Str.ofString "_known" == Str.ofString "applied") = false := by decide +kernel
theorem ne_Slots__known_applied_p : ¬ (Str.ofString "_known" = Str.ofString "applied") := by decide +kernel
theorem ne_Slots_learn_base : (Str.ofString "learn" == Str.ofString "base") = false := by decide +kernel
theorem ne_Slots_learn_base_p : ¬ (Str.ofString "learn" = Str.ofString "base") := by decide +kernel
theorem ne_Slots_learn_applied : (Str.ofString "learn" == Str.ofString "applied") = false := by decide +kernel
theorem ne_Slots_learn_applied_p : ¬ (Str.ofString "learn" = Str.ofString "applied") := by decide +kernel
theorem ne_Slots_learn__known : (Str.ofString "learn" == Str.ofString "_known") = false := by decide +kernel
theorem ne_Slots_learn__known_p : ¬ (Str.ofString "learn" = Str.ofString "_known") := by decide +kernel
theorem ne_Slots_take_base : (Str.ofString "take" == Str.ofString "base") = false := by decide +kernel
theorem ne_Slots_take_base_p : ¬ (Str.ofString "take" = Str.ofString "base") := by decide +kernel
theorem ne_Slots_take_applied : (Str.ofString "take" == Str.ofString "applied") = false := by decide +kernel
theorem ne_Slots_take_applied_p : ¬ (Str.ofString "take" = Str.ofString "applied") := by decide +kernel
theorem ne_Slots_take__known : (Str.ofString "take" == Str.ofString "_known") = false := by decide +kernel
theorem ne_Slots_take__known_p : ¬ (Str.ofString "take" = Str.ofString "_known") := by decide +kernel
theorem ne_Slots_is_behind_base : (Str.ofString "is_behind" == Str.ofString "base") = false := by decide +kernel
theorem ne_Slots_is_behind_base_p : ¬ (Str.ofString "is_behind" = Str.ofString "base") := by decide +kernel
theorem ne_Slots_is_behind_applied : (Str.ofString "is_behind" == Str.ofString "applied") = false := by decide +kernel
theorem ne_Slots_is_behind_applied_p : ¬ (Str.ofString "is_behind" = Str.ofString "applied") := by decide +kernel
theorem ne_Slots_is_behind__known : (Str.ofString "is_behind" == Str.ofString "_known") = false := by decide +kernel
theorem ne_Slots_is_behind__known_p : ¬ (Str.ofString "is_behind" = Str.ofString "_known") := by decide +kernel
theorem ne_Slots_value_at_base : (Str.ofString "value_at" == Str.ofString "base") = false := by decide +kernel
theorem ne_Slots_value_at_base_p : ¬ (Str.ofString "value_at" = Str.ofString "base") := by decide +kernel
theorem ne_Slots_value_at_applied : (Str.ofString "value_at" == Str.ofString "applied") = false := by decide +kernel
theorem ne_Slots_value_at_applied_p : ¬ (Str.ofString "value_at" = Str.ofString "applied") := by decide +kernel
theorem ne_Slots_value_at__known : (Str.ofString "value_at" == Str.ofString "_known") = false := by decide +kernel
theorem ne_Slots_value_at__known_p : ¬ (Str.ofString "value_at" = Str.ofString "_known") := by decide +kernel
theorem ne_Slots_cut_base : (Str.ofString "cut" == Str.ofString "base") = false := by decide +kernel
theorem ne_Slots_cut_base_p : ¬ (Str.ofString "cut" = Str.ofString "base") := by decide +kernel
theorem ne_Slots_cut_applied : (Str.ofString "cut" == Str.ofString "applied") = false := by decide +kernel
theorem ne_Slots_cut_applied_p : ¬ (Str.ofString "cut" = Str.ofString "applied") := by decide +kernel
theorem ne_Slots_cut__known : (Str.ofString "cut" == Str.ofString "_known") = false := by decide +kernel
theorem ne_Slots_cut__known_p : ¬ (Str.ofString "cut" = Str.ofString "_known") := by decide +kernel
theorem ne_Slots_jump_base : (Str.ofString "jump" == Str.ofString "base") = false := by decide +kernel
theorem ne_Slots_jump_base_p : ¬ (Str.ofString "jump" = Str.ofString "base") := by decide +kernel
theorem ne_Slots_jump_applied : (Str.ofString "jump" == Str.ofString "applied") = false := by decide +kernel
theorem ne_Slots_jump_applied_p : ¬ (Str.ofString "jump" = Str.ofString "applied") := by decide +kernel
theorem ne_Slots_jump__known : (Str.ofString "jump" == Str.ofString "_known") = false := by decide +kernel
theorem ne_Slots_jump__known_p : ¬ (Str.ofString "jump" = Str.ofString "_known") := by decide +kernel
theorem ne_Slots__forget_below_base : (Str.ofString "_forget_below" == Str.ofString "base") = false := by decide +kernel
theorem ne_Slots__forget_below_base_p : ¬ (Str.ofString "_forget_below" = Str.ofString "base") := by decide +kernel
theorem ne_Slots__forget_below_applied : (Str.ofString "_forget_below" == Str.ofString "applied") = false := by decide +kernel
theorem ne_Slots__forget_below_applied_p : ¬ (Str.ofString "_forget_below" = Str.ofString "applied") := by decide +kernel
theorem ne_Slots__forget_below__known : (Str.ofString "_forget_below" == Str.ofString "_known") = false := by decide +kernel
theorem ne_Slots__forget_below__known_p : ¬ (Str.ofString "_forget_below" = Str.ofString "_known") := by decide +kernel
/-- the attributes of a Slots, in the order in which they are stored -/
def fl_Slots (v0 v1 v2 : V) : List (Str × V) := [("base", v0), ("applied", v1), ("_known", v2)]
theorem fl_Slots_base {v0 v1 v2 : V} : (fl_Slots v0 v1 v2).lookup ("base" : Str) = some v0 := by unfold fl_Slots; simp [List.lookup, ne_Slots_base_applied, ne_Slots_base__known, ne_Slots_applied_base, ne_Slots_applied__known, ne_Slots__known_base, ne_Slots__known_applied, ne_Slots_learn_base, ne_Slots_learn_applied, ne_Slots_learn__known, ne_Slots_take_base, ne_Slots_take_applied, ne_Slots_take__known, ne_Slots_is_behind_base, ne_Slots_is_behind_applied, ne_Slots_is_behind__known, ne_Slots_value_at_base, ne_Slots_value_at_applied, ne_Slots_value_at__known, ne_Slots_cut_base, ne_Slots_cut_applied, ne_Slots_cut__known, ne_Slots_jump_base, ne_Slots_jump_applied, ne_Slots_jump__known, ne_Slots__forget_below_base, ne_Slots__forget_below_applied, ne_Slots__forget_below__known, ne_Slots_base_applied_p, ne_Slots_base__known_p, ne_Slots_applied_base_p, ne_Slots_applied__known_p, ne_Slots__known_base_p, ne_Slots__known_applied_p, ne_Slots_learn_base_p, ne_Slots_learn_applied_p, ne_Slots_learn__known_p, ne_Slots_take_base_p, ne_Slots_take_applied_p, ne_Slots_take__known_p, ne_Slots_is_behind_base_p, ne_Slots_is_behind_applied_p, ne_Slots_is_behind__known_p, ne_Slots_value_at_base_p, ne_Slots_value_at_applied_p, ne_Slots_value_at__known_p, ne_Slots_cut_base_p, ne_Slots_cut_applied_p, ne_Slots_cut__known_p, ne_Slots_jump_base_p, ne_Slots_jump_applied_p, ne_Slots_jump__known_p, ne_Slots__forget_below_base_p, ne_Slots__forget_below_applied_p, ne_Slots__forget_below__known_p]
theorem pf_Slots_base {v0 v1 v2 x : V} : putF ("base" : Str) x (fl_Slots v0 v1 v2) = fl_Slots x v1 v2 := by unfold fl_Slots; simp [putF, ne_Slots_base_applied, ne_Slots_base__known, ne_Slots_applied_base, ne_Slots_applied__known, ne_Slots__known_base, ne_Slots__known_applied, ne_Slots_learn_base, ne_Slots_learn_applied, ne_Slots_learn__known, ne_Slots_take_base, ne_Slots_take_applied, ne_Slots_take__known, ne_Slots_is_behind_base, ne_Slots_is_behind_applied, ne_Slots_is_behind__known, ne_Slots_value_at_base, ne_Slots_value_at_applied, ne_Slots_value_at__known, ne_Slots_cut_base, ne_Slots_cut_applied, ne_Slots_cut__known, ne_Slots_jump_base, ne_Slots_jump_applied, ne_Slots_jump__known, ne_Slots__forget_below_base, ne_Slots__forget_below_applied, ne_Slots__forget_below__known, ne_Slots_base_applied_p, ne_Slots_base__known_p, ne_Slots_applied_base_p, ne_Slots_applied__known_p, ne_Slots__known_base_p, ne_Slots__known_applied_p, ne_Slots_learn_base_p, ne_Slots_learn_applied_p, ne_Slots_learn__known_p, ne_Slots_take_base_p, ne_Slots_take_applied_p, ne_Slots_take__known_p, ne_Slots_is_behind_base_p, ne_Slots_is_behind_applied_p, ne_Slots_is_behind__known_p, ne_Slots_value_at_base_p, ne_Slots_value_at_applied_p, ne_Slots_value_at__known_p, ne_Slots_cut_base_p, ne_Slots_cut_applied_p, ne_Slots_cut__known_p, ne_Slots_jump_base_p, ne_Slots_jump_applied_p, ne_Slots_jump__known_p, ne_Slots__forget_below_base_p, ne_Slots__forget_below_applied_p, ne_Slots__forget_below__known_p]
theorem fl_Slots_applied {v0 v1 v2 : V} : (fl_Slots v0 v1 v2).lookup ("applied" : Str) = some v1 := by unfold fl_Slots; simp [List.lookup, ne_Slots_base_applied, ne_Slots_base__known, ne_Slots_applied_base, ne_Slots_applied__known, ne_Slots__known_base, ne_Slots__known_applied, ne_Slots_learn_base, ne_Slots_learn_applied, ne_Slots_learn__known, ne_Slots_take_base, ne_Slots_take_applied, ne_Slots_take__known, ne_Slots_is_behind_base, ne_Slots_is_behind_applied, ne_Slots_is_behind__known, ne_Slots_value_at_base, ne_Slots_value_at_applied, ne_Slots_value_at__known, ne_Slots_cut_base, ne_Slots_cut_applied, ne_Slots_cut__known, ne_Slots_jump_base, ne_Slots_jump_applied, ne_Slots_jump__known, ne_Slots__forget_below_base, ne_Slots__forget_below_applied, ne_Slots__forget_below__known, ne_Slots_base_applied_p, ne_Slots_base__known_p, ne_Slots_applied_base_p, ne_Slots_applied__known_p, ne_Slots__known_base_p, ne_Slots__known_applied_p, ne_Slots_learn_base_p, ne_Slots_learn_applied_p, ne_Slots_learn__known_p, ne_Slots_take_base_p, ne_Slots_take_applied_p, ne_Slots_take__known_p, ne_Slots_is_behind_base_p, ne_Slots_is_behind_applied_p, ne_Slots_is_behind__known_p, ne_Slots_value_at_base_p, ne_Slots_value_at_applied_p, ne_Slots_value_at__known_p, ne_Slots_cut_base_p, ne_Slots_cut_applied_p, ne_Slots_cut__known_p, ne_Slots_jump_base_p, ne_Slots_jump_applied_p, ne_Slots_jump__known_p, ne_Slots__forget_below_base_p, ne_Slots__forget_below_applied_p, ne_Slots__forget_below__known_p]
theorem pf_Slots_applied {v0 v1 v2 x : V} : putF ("applied" : Str) x (fl_Slots v0 v1 v2) = fl_Slots v0 x v2 := by unfold fl_Slots; simp [putF, ne_Slots_base_applied, ne_Slots_base__known, ne_Slots_applied_base, ne_Slots_applied__known, ne_Slots__known_base, ne_Slots__known_applied, ne_Slots_learn_base, ne_Slots_learn_applied, ne_Slots_learn__known, ne_Slots_take_base, ne_Slots_take_applied, ne_Slots_take__known, ne_Slots_is_behind_base, ne_Slots_is_behind_applied, ne_Slots_is_behind__known, ne_Slots_value_at_base, ne_Slots_value_at_applied, ne_Slots_value_at__known, ne_Slots_cut_base, ne_Slots_cut_applied, ne_Slots_cut__known, ne_Slots_jump_base, ne_Slots_jump_applied, ne_Slots_jump__known, ne_Slots__forget_below_base, ne_Slots__forget_below_applied, ne_Slots__forget_below__known, ne_Slots_base_applied_p, ne_Slots_base__known_p, ne_Slots_applied_base_p, ne_Slots_applied__known_p, ne_Slots__known_base_p, ne_Slots__known_applied_p, ne_Slots_learn_base_p, ne_Slots_learn_applied_p, ne_Slots_learn__known_p, ne_Slots_take_base_p, ne_Slots_take_applied_p, ne_Slots_take__known_p, ne_Slots_is_behind_base_p, ne_Slots_is_behind_applied_p, ne_Slots_is_behind__known_p, ne_Slots_value_at_base_p, ne_Slots_value_at_applied_p, ne_Slots_value_at__known_p, ne_Slots_cut_base_p, ne_Slots_cut_applied_p, ne_Slots_cut__known_p, ne_Slots_jump_base_p, ne_Slots_jump_applied_p, ne_Slots_jump__known_p, ne_Slots__forget_below_base_p, ne_Slots__forget_below_applied_p, ne_Slots__forget_below__known_p]
theorem fl_Slots__known {v0 v1 v2 : V} : (fl_Slots v0 v1 v2).lookup ("_known" : Str) = some v2 := by unfold fl_Slots; simp [List.lookup, ne_Slots_base_applied, ne_Slots_base__known, ne_Slots_applied_base, ne_Slots_applied__known, ne_Slots__known_base, ne_Slots__known_applied, ne_Slots_learn_base, ne_Slots_learn_applied, ne_Slots_learn__known, ne_Slots_take_base, ne_Slots_take_applied, ne_Slots_take__known, ne_Slots_is_behind_base, ne_Slots_is_behind_applied, ne_Slots_is_behind__known, ne_Slots_value_at_base, ne_Slots_value_at_applied, ne_Slots_value_at__known, ne_Slots_cut_base, ne_Slots_cut_applied, ne_Slots_cut__known, ne_Slots_jump_base, ne_Slots_jump_applied, ne_Slots_jump__known, ne_Slots__forget_below_base, ne_Slots__forget_below_applied, ne_Slots__forget_below__known, ne_Slots_base_applied_p, ne_Slots_base__known_p, ne_Slots_applied_base_p, ne_Slots_applied__known_p, ne_Slots__known_base_p, ne_Slots__known_applied_p, ne_Slots_learn_base_p, ne_Slots_learn_applied_p, ne_Slots_learn__known_p, ne_Slots_take_base_p, ne_Slots_take_applied_p, ne_Slots_take__known_p, ne_Slots_is_behind_base_p, ne_Slots_is_behind_applied_p, ne_Slots_is_behind__known_p, ne_Slots_value_at_base_p, ne_Slots_value_at_applied_p, ne_Slots_value_at__known_p, ne_Slots_cut_base_p, ne_Slots_cut_applied_p, ne_Slots_cut__known_p, ne_Slots_jump_base_p, ne_Slots_jump_applied_p, ne_Slots_jump__known_p, ne_Slots__forget_below_base_p, ne_Slots__forget_below_applied_p, ne_Slots__forget_below__known_p]
theorem pf_Slots__known {v0 v1 v2 x : V} : putF ("_known" : Str) x (fl_Slots v0 v1 v2) = fl_Slots v0 v1 x := by unfold fl_Slots; simp [putF, ne_Slots_base_applied, ne_Slots_base__known, ne_Slots_applied_base, ne_Slots_applied__known, ne_Slots__known_base, ne_Slots__known_applied, ne_Slots_learn_base, ne_Slots_learn_applied, ne_Slots_learn__known, ne_Slots_take_base, ne_Slots_take_applied, ne_Slots_take__known, ne_Slots_is_behind_base, ne_Slots_is_behind_applied, ne_Slots_is_behind__known, ne_Slots_value_at_base, ne_Slots_value_at_applied, ne_Slots_value_at__known, ne_Slots_cut_base, ne_Slots_cut_applied, ne_Slots_cut__known, ne_Slots_jump_base, ne_Slots_jump_applied, ne_Slots_jump__known, ne_Slots__forget_below_base, ne_Slots__forget_below_applied, ne_Slots__forget_below__known, ne_Slots_base_applied_p, ne_Slots_base__known_p, ne_Slots_applied_base_p, ne_Slots_applied__known_p, ne_Slots__known_base_p, ne_Slots__known_applied_p, ne_Slots_learn_base_p, ne_Slots_learn_applied_p, ne_Slots_learn__known_p, ne_Slots_take_base_p, ne_Slots_take_applied_p, ne_Slots_take__known_p, ne_Slots_is_behind_base_p, ne_Slots_is_behind_applied_p, ne_Slots_is_behind__known_p, ne_Slots_value_at_base_p, ne_Slots_value_at_applied_p, ne_Slots_value_at__known_p, ne_Slots_cut_base_p, ne_Slots_cut_applied_p, ne_Slots_cut__known_p, ne_Slots_jump_base_p, ne_Slots_jump_applied_p, ne_Slots_jump__known_p, ne_Slots__forget_below_base_p, ne_Slots__forget_below_applied_p, ne_Slots__forget_below__known_p]
theorem fl_Slots_no_learn {v0 v1 v2 : V} : (fl_Slots v0 v1 v2).lookup ("learn" : Str) = none := by unfold fl_Slots; simp [List.lookup, ne_Slots_base_applied, ne_Slots_base__known, ne_Slots_applied_base, ne_Slots_applied__known, ne_Slots__known_base, ne_Slots__known_applied, ne_Slots_learn_base, ne_Slots_learn_applied, ne_Slots_learn__known, ne_Slots_take_base, ne_Slots_take_applied, ne_Slots_take__known, ne_Slots_is_behind_base, ne_Slots_is_behind_applied, ne_Slots_is_behind__known, ne_Slots_value_at_base, ne_Slots_value_at_applied, ne_Slots_value_at__known, ne_Slots_cut_base, ne_Slots_cut_applied, ne_Slots_cut__known, ne_Slots_jump_base, ne_Slots_jump_applied, ne_Slots_jump__known, ne_Slots__forget_below_base, ne_Slots__forget_below_applied, ne_Slots__forget_below__known, ne_Slots_base_applied_p, ne_Slots_base__known_p, ne_Slots_applied_base_p, ne_Slots_applied__known_p, ne_Slots__known_base_p, ne_Slots__known_applied_p, ne_Slots_learn_base_p, ne_Slots_learn_applied_p, ne_Slots_learn__known_p, ne_Slots_take_base_p, ne_Slots_take_applied_p, ne_Slots_take__known_p, ne_Slots_is_behind_base_p, ne_Slots_is_behind_applied_p, ne_Slots_is_behind__known_p, ne_Slots_value_at_base_p, ne_Slots_value_at_applied_p, ne_Slots_value_at__known_p, ne_Slots_cut_base_p, ne_Slots_cut_applied_p, ne_Slots_cut__known_p, ne_Slots_jump_base_p, ne_Slots_jump_applied_p, ne_Slots_jump__known_p, ne_Slots__forget_below_base_p, ne_Slots__forget_below_applied_p, ne_Slots__forget_below__known_p]
theorem fl_Slots_no_take {v0 v1 v2 : V} : (fl_Slots v0 v1 v2).lookup ("take" : Str) = none := by unfold fl_Slots; simp [List.lookup, ne_Slots_base_applied, ne_Slots_base__known, ne_Slots_applied_base, ne_Slots_applied__known, ne_Slots__known_base, ne_Slots__known_applied, ne_Slots_learn_base, ne_Slots_learn_applied, ne_Slots_learn__known, ne_Slots_take_base, ne_Slots_take_applied, ne_Slots_take__known, ne_Slots_is_behind_base, ne_Slots_is_behind_applied, ne_Slots_is_behind__known, ne_Slots_value_at_base, ne_Slots_value_at_applied, ne_Slots_value_at__known, ne_Slots_cut_base, ne_Slots_cut_applied, ne_Slots_cut__known, ne_Slots_jump_base, ne_Slots_jump_applied, ne_Slots_jump__known, ne_Slots__forget_below_base, ne_Slots__forget_below_applied, ne_Slots__forget_below__known, ne_Slots_base_applied_p, ne_Slots_base__known_p, ne_Slots_applied_base_p, ne_Slots_applied__known_p, ne_Slots__known_base_p, ne_Slots__known_applied_p, ne_Slots_learn_base_p, ne_Slots_learn_applied_p, ne_Slots_learn__known_p, ne_Slots_take_base_p, ne_Slots_take_applied_p, ne_Slots_take__known_p, ne_Slots_is_behind_base_p, ne_Slots_is_behind_applied_p, ne_Slots_is_behind__known_p, ne_Slots_value_at_base_p, ne_Slots_value_at_applied_p, ne_Slots_value_at__known_p, ne_Slots_cut_base_p, ne_Slots_cut_applied_p, ne_Slots_cut__known_p, ne_Slots_jump_base_p, ne_Slots_jump_applied_p, ne_Slots_jump__known_p, ne_Slots__forget_below_base_p, ne_Slots__forget_below_applied_p, ne_Slots__forget_below__known_p]
theorem fl_Slots_no_is_behind {v0 v1 v2 : V} : (fl_Slots v0 v1 v2).lookup ("is_behind" : Str) = none := by unfold fl_Slots; simp [List.lookup, ne_Slots_base_applied, ne_Slots_base__known, ne_Slots_applied_base, ne_Slots_applied__known, ne_Slots__known_base, ne_Slots__known_applied, ne_Slots_learn_base, ne_Slots_learn_applied, ne_Slots_learn__known, ne_Slots_take_base, ne_Slots_take_applied, ne_Slots_take__known, ne_Slots_is_behind_base, ne_Slots_is_behind_applied, ne_Slots_is_behind__known, ne_Slots_value_at_base, ne_Slots_value_at_applied, ne_Slots_value_at__known, ne_Slots_cut_base, ne_Slots_cut_applied, ne_Slots_cut__known, ne_Slots_jump_base, ne_Slots_jump_applied, ne_Slots_jump__known, ne_Slots__forget_below_base, ne_Slots__forget_below_applied, ne_Slots__forget_below__known, ne_Slots_base_applied_p, ne_Slots_base__known_p, ne_Slots_applied_base_p, ne_Slots_applied__known_p, ne_Slots__known_base_p, ne_Slots__known_applied_p, ne_Slots_learn_base_p, ne_Slots_learn_applied_p, ne_Slots_learn__known_p, ne_Slots_take_base_p, ne_Slots_take_applied_p, ne_Slots_take__known_p, ne_Slots_is_behind_base_p, ne_Slots_is_behind_applied_p, ne_Slots_is_behind__known_p, ne_Slots_value_at_base_p, ne_Slots_value_at_applied_p, ne_Slots_value_at__known_p, ne_Slots_cut_base_p, ne_Slots_cut_applied_p, ne_Slots_cut__known_p, ne_Slots_jump_base_p, ne_Slots_jump_applied_p, ne_Slots_jump__known_p, ne_Slots__forget_below_base_p, ne_Slots__forget_below_applied_p, ne_Slots__forget_below__known_p]
theorem fl_Slots_no_value_at {v0 v1 v2 : V} : (fl_Slots v0 v1 v2).lookup ("value_at" : Str) = none := by unfold fl_Slots; simp [List.lookup, ne_Slots_base_applied, ne_Slots_base__known, ne_Slots_applied_base, ne_Slots_applied__known, ne_Slots__known_base, ne_Slots__known_applied, ne_Slots_learn_base, ne_Slots_learn_applied, ne_Slots_learn__known, ne_Slots_take_base, ne_Slots_take_applied, ne_Slots_take__known, ne_Slots_is_behind_base, ne_Slots_is_behind_applied, ne_Slots_is_behind__known, ne_Slots_value_at_base, ne_Slots_value_at_applied, ne_Slots_value_at__known, ne_Slots_cut_base, ne_Slots_cut_applied, ne_Slots_cut__known, ne_Slots_jump_base, ne_Slots_jump_applied, ne_Slots_jump__known, ne_Slots__forget_below_base, ne_Slots__forget_below_applied, ne_Slots__forget_below__known, ne_Slots_base_applied_p, ne_Slots_base__known_p, ne_Slots_applied_base_p, ne_Slots_applied__known_p, ne_Slots__known_base_p, ne_Slots__known_applied_p, ne_Slots_learn_base_p, ne_Slots_learn_applied_p, ne_Slots_learn__known_p, ne_Slots_take_base_p, ne_Slots_take_applied_p, ne_Slots_take__known_p, ne_Slots_is_behind_base_p, ne_Slots_is_behind_applied_p, ne_Slots_is_behind__known_p, ne_Slots_value_at_base_p, ne_Slots_value_at_applied_p, ne_Slots_value_at__known_p, ne_Slots_cut_base_p, ne_Slots_cut_applied_p, ne_Slots_cut__known_p, ne_Slots_jump_base_p, ne_Slots_jump_applied_p, ne_Slots_jump__known_p, ne_Slots__forget_below_base_p, ne_Slots__forget_below_applied_p, ne_Slots__forget_below__known_p]
theorem fl_Slots_no_cut {v0 v1 v2 : V} : (fl_Slots v0 v1 v2).lookup ("cut" : Str) = none := by unfold fl_Slots; simp [List.lookup, ne_Slots_base_applied, ne_Slots_base__known, ne_Slots_applied_base, ne_Slots_applied__known, ne_Slots__known_base, ne_Slots__known_applied, ne_Slots_learn_base, ne_Slots_learn_applied, ne_Slots_learn__known, ne_Slots_take_base, ne_Slots_take_applied, ne_Slots_take__known, ne_Slots_is_behind_base, ne_Slots_is_behind_applied, ne_Slots_is_behind__known, ne_Slots_value_at_base, ne_Slots_value_at_applied, ne_Slots_value_at__known, ne_Slots_cut_base, ne_Slots_cut_applied, ne_Slots_cut__known, ne_Slots_jump_base, ne_Slots_jump_applied, ne_Slots_jump__known, ne_Slots__forget_below_base, ne_Slots__forget_below_applied, ne_Slots__forget_below__known, ne_Slots_base_applied_p, ne_Slots_base__known_p, ne_Slots_applied_base_p, ne_Slots_applied__known_p, ne_Slots__known_base_p, ne_Slots__known_applied_p, ne_Slots_learn_base_p, ne_Slots_learn_applied_p, ne_Slots_learn__known_p, ne_Slots_take_base_p, ne_Slots_take_applied_p, ne_Slots_take__known_p, ne_Slots_is_behind_base_p, ne_Slots_is_behind_applied_p, ne_Slots_is_behind__known_p, ne_Slots_value_at_base_p, ne_Slots_value_at_applied_p, ne_Slots_value_at__known_p, ne_Slots_cut_base_p, ne_Slots_cut_applied_p, ne_Slots_cut__known_p, ne_Slots_jump_base_p, ne_Slots_jump_applied_p, ne_Slots_jump__known_p, ne_Slots__forget_below_base_p, ne_Slots__forget_below_applied_p, ne_Slots__forget_below__known_p]
theorem fl_Slots_no_jump {v0 v1 v2 : V} : (fl_Slots v0 v1 v2).lookup ("jump" : Str) = none := by unfold fl_Slots; simp [List.lookup, ne_Slots_base_applied, ne_Slots_base__known, ne_Slots_applied_base, ne_Slots_applied__known, ne_Slots__known_base, ne_Slots__known_applied, ne_Slots_learn_base, ne_Slots_learn_applied, ne_Slots_learn__known, ne_Slots_take_base, ne_Slots_take_applied, ne_Slots_take__known, ne_Slots_is_behind_base, ne_Slots_is_behind_applied, ne_Slots_is_behind__known, ne_Slots_value_at_base, ne_Slots_value_at_applied, ne_Slots_value_at__known, ne_Slots_cut_base, ne_Slots_cut_applied, ne_Slots_cut__known, ne_Slots_jump_base, ne_Slots_jump_applied, ne_Slots_jump__known, ne_Slots__forget_below_base, ne_Slots__forget_below_applied, ne_Slots__forget_below__known, ne_Slots_base_applied_p, ne_Slots_base__known_p, ne_Slots_applied_base_p, ne_Slots_applied__known_p, ne_Slots__known_base_p, ne_Slots__known_applied_p, ne_Slots_learn_base_p, ne_Slots_learn_applied_p, ne_Slots_learn__known_p, ne_Slots_take_base_p, ne_Slots_take_applied_p, ne_Slots_take__known_p, ne_Slots_is_behind_base_p, ne_Slots_is_behind_applied_p, ne_Slots_is_behind__known_p, ne_Slots_value_at_base_p, ne_Slots_value_at_applied_p, ne_Slots_value_at__known_p, ne_Slots_cut_base_p, ne_Slots_cut_applied_p, ne_Slots_cut__known_p, ne_Slots_jump_base_p, ne_Slots_jump_applied_p, ne_Slots_jump__known_p, ne_Slots__forget_below_base_p, ne_Slots__forget_below_applied_p, ne_Slots__forget_below__known_p]
theorem fl_Slots_no__forget_below {v0 v1 v2 : V} : (fl_Slots v0 v1 v2).lookup ("_forget_below" : Str) = none := by unfold fl_Slots; simp [List.lookup, ne_Slots_base_applied, ne_Slots_base__known, ne_Slots_applied_base, ne_Slots_applied__known, ne_Slots__known_base, ne_Slots__known_applied, ne_Slots_learn_base, ne_Slots_learn_applied, ne_Slots_learn__known, ne_Slots_take_base, ne_Slots_take_applied, ne_Slots_take__known, ne_Slots_is_behind_base, ne_Slots_is_behind_applied, ne_Slots_is_behind__known, ne_Slots_value_at_base, ne_Slots_value_at_applied, ne_Slots_value_at__known, ne_Slots_cut_base, ne_Slots_cut_applied, ne_Slots_cut__known, ne_Slots_jump_base, ne_Slots_jump_applied, ne_Slots_jump__known, ne_Slots__forget_below_base, ne_Slots__forget_below_applied, ne_Slots__forget_below__known, ne_Slots_base_applied_p, ne_Slots_base__known_p, ne_Slots_applied_base_p, ne_Slots_applied__known_p, ne_Slots__known_base_p, ne_Slots__known_applied_p, ne_Slots_learn_base_p, ne_Slots_learn_applied_p, ne_Slots_learn__known_p, ne_Slots_take_base_p, ne_Slots_take_applied_p, ne_Slots_take__known_p, ne_Slots_is_behind_base_p, ne_Slots_is_behind_applied_p, ne_Slots_is_behind__known_p, ne_Slots_value_at_base_p, ne_Slots_value_at_applied_p, ne_Slots_value_at__known_p, ne_Slots_cut_base_p, ne_Slots_cut_applied_p, ne_Slots_cut__known_p, ne_Slots_jump_base_p, ne_Slots_jump_applied_p, ne_Slots_jump__known_p, ne_Slots__forget_below_base_p, ne_Slots__forget_below_applied_p, ne_Slots__forget_below__known_p]
theorem fl_Slots_new {v0 v1 v2 : V} : putF ("_known" : Str) v2 (putF ("applied" : Str) v1 (putF ("base" : Str) v0 ([]))) = fl_Slots v0 v1 v2 := by unfold fl_Slots; simp [putF, ne_Slots_base_applied, ne_Slots_base__known, ne_Slots_applied_base, ne_Slots_applied__known, ne_Slots__known_base, ne_Slots__known_applied, ne_Slots_learn_base, ne_Slots_learn_applied, ne_Slots_learn__known, ne_Slots_take_base, ne_Slots_take_applied, ne_Slots_take__known, ne_Slots_is_behind_base, ne_Slots_is_behind_applied, ne_Slots_is_behind__known, ne_Slots_value_at_base, ne_Slots_value_at_applied, ne_Slots_value_at__known, ne_Slots_cut_base, ne_Slots_cut_applied, ne_Slots_cut__known, ne_Slots_jump_base, ne_Slots_jump_applied, ne_Slots_jump__known, ne_Slots__forget_below_base, ne_Slots__forget_below_applied, ne_Slots__forget_below__known, ne_Slots_base_applied_p, ne_Slots_base__known_p, ne_Slots_applied_base_p, ne_Slots_applied__known_p, ne_Slots__known_base_p, ne_Slots__known_applied_p, ne_Slots_learn_base_p, ne_Slots_learn_applied_p, ne_Slots_learn__known_p, ne_Slots_take_base_p, ne_Slots_take_applied_p, ne_Slots_take__known_p, ne_Slots_is_behind_base_p, ne_Slots_is_behind_applied_p, ne_Slots_is_behind__known_p, ne_Slots_value_at_base_p, ne_Slots_value_at_applied_p, ne_Slots_value_at__known_p, ne_Slots_cut_base_p, ne_Slots_cut_applied_p, ne_Slots_cut__known_p, ne_Slots_jump_base_p, ne_Slots_jump_applied_p, ne_Slots_jump__known_p, ne_Slots__forget_below_base_p, ne_Slots__forget_below_applied_p, ne_Slots__forget_below__known_p]

/-! the draws of a script: some numbers from 0 to 999 -/
def Drawn (ds : List Int) : Prop := ∀ d ∈ ds, 0 ≤ d ∧ d < 1000
theorem drawn_app {ds es : List Int} (h : Drawn ds) (g : Drawn es) : Drawn (ds ++ es) := fun d hd => (List.mem_append.mp hd).elim (h d) (g d)
theorem drawn_one {d : Int} (h : 0 ≤ d) (g : d < 1000) : Drawn [d] := fun e he => by rw [List.mem_singleton] at he; subst he; exact ⟨h, g⟩
def sp_draws (K : PySem.W.Frag) : Sp := fun vs H Q _ => ∃ (a : Addr) (ns : List Int), vs = [.ref a] ∧ SqL K H a (ns.map V.int) ∧
  ∀ (p : Addr) (H' : Hp) (ds : List Int), H p = none → Same H H' → H' p = some (.lst (ds.map V.int)) → Drawn ds → ds.length ≤ 1260 → Q (.ref p) H'
section
variable {P : Program} {w : World} {K : PySem.W.Frag} {mg : Str → Option Value} {base : Heap}
theorem ok__law_draws (T : TX K mg) : FnOk P w K mg base CX0 1 T.a__law_draws T.d__law_draws ["script"] (sp_draws K) := by
  refine T.F__law_draws.ok sc__law_draws (fun vs H Q E h => ?_) (fun cdv A outer s H vs Q E hr h => ?_)
  · obtain ⟨a, ns, rfl, _⟩ := h
    rfl
  · obtain ⟨a, ns, rfl, hS, q⟩ := h
    refine ⟨_, (pss_cons (ps_set (i := 1) sc__law_draws.nd rfl (Or.inl rfl) (pe_lst pa_nil))
      (pss_cons (ps_for PassesOwn.never rfl (pi_range1 (by rfl) T.n_range (pa_cons (pe_callB (call_min2 rfl) (by rfl) T.n_min (by decide +kernel) (pa_cons (pe_callB call_len_seq (by rfl) T.n_len PySem.boot_len (pa_cons (pv 0) pa_nil)) (pa_cons pe_int pa_nil))) pa_nil)) (pg_name (i := 2) sc__law_draws.nd rfl (Or.inl rfl))
        (pss_cons (ps_set (i := 3) sc__law_draws.nd rfl (Or.inl rfl) (pe_callB call_abs (by rfl) T.n_abs (by decide +kernel) (pa_cons (pe_ix ix_list (pv 0) (pv 2) (fun _ _ => rfl)) pa_nil)))
        (pss_one (ps_if (pt_cmpR op_ge (pv 3) (pe_op op_pow pe_int pe_int) (nomark _)) (pss_one (ps_for PassesOwn.never rfl (pi_range1 (by rfl) T.n_range (pa_cons pe_int pa_nil)) (pg_name (i := 4) sc__law_draws.nd rfl (Or.inl rfl))
            (pss_one (ps_if (pt_cmpR op_gt (pv 3) pe_int (nomark _)) (pss_cons (ps_expr (pe_bm PySem.F.plainAttrs_list PySem.F.slot_list_append PySem.F.type_list_append mt_append (pv 1) (pa_cons (pe_op op_mod (pv 3) pe_int) pa_nil)))
              (pss_one (ps_set (i := 3) sc__law_draws.nd rfl (Or.inl rfl) (pe_op op_fdiv (pv 3) pe_int)))) pss_nil)))) (pss_cons (ps_set (i := 5) sc__law_draws.nd rfl (Or.inl rfl) (pe_op op_mod (pe_callTy call_int1 (by rfl) T.n_int (by decide +kernel) (pa_cons (pe_op op_add (pe_op op_add (pe_op op_mul (pe_ix ix_list (pv 0) (pv 2) (fun _ _ => rfl)) pe_int) (pe_op op_mul (pv 2) pe_int)) pe_int) pa_nil)) pe_int))
          (pss_one (ps_for PassesOwn.never rfl (pi_range1 (by rfl) T.n_range (pa_cons pe_int pa_nil)) (pg_name (i := 4) sc__law_draws.nd rfl (Or.inl rfl))
            (pss_cons (ps_set (i := 5) sc__law_draws.nd rfl (Or.inl rfl) (pe_op op_mod (pe_callTy call_int1 (by rfl) T.n_int (by decide +kernel) (pa_cons (pe_op op_add (pe_op op_add (pe_op op_mul (pv 5) (pv 5)) (pe_op op_mul (pv 4) pe_int)) pe_int) pa_nil)) pe_int))
            (pss_one (ps_expr (pe_bm PySem.F.plainAttrs_list PySem.F.slot_list_append PySem.F.type_list_append mt_append (pv 1) (pa_cons (pe_op op_mod (pv 5) pe_int) pa_nil))))))))))))
      (pss_one (ps_ret (pv 1))))), ?_⟩
    refine ⟨Nat.zero_le _, fun o ho => ?_⟩
    have s1 := same_upd (o := .lst []) ho
    have hml : (ns.map V.int).length = ns.length := List.length_map _
    refine ⟨_, rfl, a, _, rfl, .inl (s1.seq hS), _, _, rfl, ?_⟩
    obtain ⟨m, hm, hm63, hmn⟩ : ∃ m : Nat, (if (63 : Int) < ((ns.map V.int).length : Int) then (63 : Int) else ((ns.map V.int).length : Int)) = (m : Int) ∧ m ≤ 63 ∧ m ≤ ns.length := by
      rw [hml]
      refine ⟨min ns.length 63, ?_, by omega, by omega⟩
      split <;> omega
    refine ⟨(m : Int), by rw [← hm], by omega, by omega, for_range (lo := 0) (n := _) (fun i σ H2 => ∃ (ds : List Int) (x2 x3 x4 x5 : Option V), σ = [some (.ref a), some (.ref o), x2, x3, x4, x5] ∧ Same H H2 ∧ H2 o = some (.lst (ds.map V.int)) ∧ Drawn ds ∧ ds.length ≤ 20 * i)
      ⟨[], none, none, none, none, rfl, s1, upd_same, (fun _ h => by cases h), Nat.le_refl _⟩ ?_ ?_⟩
    · rintro i σ H2 hi ⟨ds, x2, x3, x4, x5, rfl, g1, g2, g3, g4⟩
      have him : i < m := by omega
      have hg : ns[i]? = some ns[i] := List.getElem?_eq_getElem (by omega)
      have ha : atI (ns.map V.int) (0 + (i : Int)) = some (.int ns[i]) := by rw [Int.zero_add]; exact at_map hg
      generalize ns[i] = c at ha
      refine ⟨_, rfl, _, rfl, a, _, _, _, rfl, rfl, g1.seq hS, ha, _, rfl, ?_⟩
      dsimp only
      have hc : 0 ≤ (if c < 0 then -c else c) := by split <;> omega
      generalize (if c < 0 then -c else c) = cell at hc
      refine ⟨_, rfl, _, _, rfl, rfl, ⟨by decide, by decide, by decide⟩, _, _, rfl, rfl, _, rfl, ifd (fun hb => ?_) (fun hb => ?_)⟩
      · refine ⟨20, rfl, by decide, by decide, for_range (lo := 0) (n := 20) (fun j σ H3 => ∃ (es : List Int) (cell : Int) (x4 : Option V), 0 ≤ cell ∧ σ = [some (.ref a), some (.ref o), some (.int (0 + (i : Int))), some (.int cell), x4, x5] ∧ Same H H3 ∧ H3 o = some (.lst (es.map V.int)) ∧ Drawn es ∧ es.length ≤ 20 * i + j)
          ⟨ds, cell, x4, hc, rfl, g1, g2, g3, g4⟩ ?_ ?_⟩
        · rintro j σ H3 hj ⟨es, cell, x4, h0, rfl, k1, k2, k3, k4⟩
          refine ⟨_, rfl, _, _, rfl, rfl, _, rfl, ifd (fun hb => ?_) (fun hb => ?_)⟩
          · refine ⟨_, rfl, .inl ⟨rfl, _, sql k2⟩, _, rfl, _, _, rfl, rfl, (by show (0 : Int) < _; decide), o, _, _, rfl, rfl, k2, szl (by rw [List.length_map]; omega), ?_⟩
            refine ⟨_, rfl, _, _, rfl, rfl, ⟨by decide, by decide⟩, ?_⟩
            refine ⟨es ++ [cell % 1000], cell / 1000, some (.int (0 + (j : Int))), Int.ediv_nonneg h0 (by decide), rfl, same_put k1 ho, ?_, drawn_app k3 (drawn_one (Int.emod_nonneg _ (by decide)) (Int.emod_lt_of_pos _ (by decide))), by rw [List.length_append]; simp only [List.length_cons, List.length_nil]; omega⟩
            rw [upd_same, List.map_append]
            rfl
          · exact ⟨es, cell, some (.int (0 + (j : Int))), h0, rfl, k1, k2, k3, by omega⟩
        · rintro σ H3 ⟨es, cell, x4, h0, rfl, k1, k2, k3, k4⟩
          exact ⟨es, _, _, _, _, rfl, k1, k2, k3, by omega⟩
      · refine ⟨_, rfl, _, rfl, a, _, _, _, rfl, rfl, g1.seq hS, ha, _, _, rfl, rfl, .inr ⟨by decide, by decide⟩, _, rfl, _, _, rfl, rfl, .inr ⟨by decide, by decide⟩, _, _, rfl, rfl, _, _, rfl, rfl, .inl ⟨_, rfl, _, _, rfl, rfl, (by show (0 : Int) < _; decide), ?_⟩⟩
        dsimp only
        have hx := And.intro (Int.emod_nonneg (c * 48271 + (0 + (i : Int)) * 69621 + 12345) (show (2147483647 : Int) ≠ 0 by decide)) (Int.emod_lt_of_pos (c * 48271 + (0 + (i : Int)) * 69621 + 12345) (show (0 : Int) < 2147483647 by decide))
        generalize (c * 48271 + (0 + (i : Int)) * 69621 + 12345) % 2147483647 = mx at hx
        refine ⟨3, rfl, by decide, by decide, for_range (lo := 0) (n := 3) (fun j σ H3 => ∃ (es : List Int) (mx : Int) (x4 : Option V), (0 ≤ mx ∧ mx < 2147483647) ∧ σ = [some (.ref a), some (.ref o), some (.int (0 + (i : Int))), some (.int cell), x4, some (.int mx)] ∧ Same H H3 ∧ H3 o = some (.lst (es.map V.int)) ∧ Drawn es ∧ es.length ≤ 20 * i + j)
          ⟨ds, mx, x4, hx, rfl, g1, g2, g3, g4⟩ ?_ ?_⟩
        · rintro j σ H3 hj ⟨es, mx, x4, h0, rfl, k1, k2, k3, k4⟩
          refine ⟨_, rfl, _, rfl, _, _, rfl, rfl, .inl ⟨by omega, by omega⟩, _, rfl, _, _, rfl, rfl, .inr ⟨by decide, by decide⟩, _, _, rfl, rfl, _, _, rfl, rfl, .inl ⟨_, rfl, _, _, rfl, rfl, (by show (0 : Int) < _; decide), ?_⟩⟩
          refine ⟨_, rfl, .inl ⟨rfl, _, sql k2⟩, _, rfl, _, _, rfl, rfl, (by show (0 : Int) < _; decide), o, _, _, rfl, rfl, k2, szl (by rw [List.length_map]; omega), ?_⟩
          have h2 := And.intro (Int.emod_nonneg (mx * mx + (0 + (j : Int)) * 7919 + 17) (show (2147483629 : Int) ≠ 0 by decide)) (Int.emod_lt_of_pos (mx * mx + (0 + (j : Int)) * 7919 + 17) (show (0 : Int) < 2147483629 by decide))
          refine ⟨es ++ [(mx * mx + (0 + (j : Int)) * 7919 + 17) % 2147483629 % 1000], (mx * mx + (0 + (j : Int)) * 7919 + 17) % 2147483629, some (.int (0 + (j : Int))), ⟨h2.1, by omega⟩, rfl, same_put k1 ho, ?_, drawn_app k3 (drawn_one (Int.emod_nonneg _ (by decide)) (Int.emod_lt_of_pos _ (by decide))), by rw [List.length_append]; simp only [List.length_cons, List.length_nil]; omega⟩
          rw [upd_same, List.map_append]
          rfl
        · rintro σ H3 ⟨es, mx, x4, h0, rfl, k1, k2, k3, k4⟩
          exact ⟨es, _, _, _, _, rfl, k1, k2, k3, by omega⟩
    · rintro σ H2 ⟨ds, x2, x3, x4, x5, rfl, g1, g2, g3, g4⟩
      exact ⟨_, rfl, q o _ ds ho g1 g2 g3 (by omega)⟩
end
/-! the chosen values: an object with a dict -/
structure SlotsAt (C : Addr) (H : Hp) (p d : Addr) (b a : Int) (kvs : List (Key × V)) : Prop where
  ob : ∃ dx, H p = some (.ins C dx (fl_Slots (.int b) (.int a) (.ref d)))
  dc : H d = some (.dK kvs)
/-- how many keys stand from one on -/
def cntFrom (kvs : List (Key × V)) (a : Int) : Nat := (kvs.filter fun kv => match kv.1 with | .inl s => decide (a ≤ s) | _ => false).length
def hasK (kvs : List (Key × V)) (s : Int) : Bool := (valV kvs (Sum.inl s)).isSome
theorem cnt_less : ∀ {kvs : List (Key × V)} {a : Int}, hasK kvs a = true → cntFrom kvs (a + 1) < cntFrom kvs a := by
  have le : ∀ (kvs : List (Key × V)) (a : Int), cntFrom kvs (a + 1) ≤ cntFrom kvs a := fun kvs a => by
    unfold cntFrom
    induction kvs with
    | nil => exact Nat.le_refl _
    | cons kv r ih =>
      obtain ⟨k, v⟩ := kv
      cases k with
      | inr x => simpa [List.filter_cons] using ih
      | inl s =>
        simp only [List.filter_cons]
        by_cases h1 : a + 1 ≤ s
        · have h2 : a ≤ s := by omega
          simp only [decide_eq_true h1, decide_eq_true h2, if_true, List.length_cons]
          omega
        · simp only [decide_eq_false h1]
          by_cases h2 : a ≤ s
          · simp only [decide_eq_true h2, if_true, List.length_cons]
            simp
            omega
          · simp only [decide_eq_false h2]
            simpa using ih
  intro kvs
  induction kvs with
  | nil => intro a h; cases h
  | cons kv r ih =>
    intro a h
    obtain ⟨k, v⟩ := kv
    by_cases e : k = Sum.inl a
    · subst e
      have := le r a
      unfold cntFrom at this ⊢
      simp only [List.filter_cons]
      have h1 : ¬ a + 1 ≤ a := by omega
      simp only [decide_eq_false h1, decide_eq_true (Int.le_refl a), if_true, List.length_cons]
      simp
      omega
    · have h' : hasK r a = true := by
        unfold hasK at h ⊢
        rw [valV_neg e] at h
        exact h
      have := ih h'
      unfold cntFrom at this ⊢
      cases k with
      | inr x => simpa [List.filter_cons] using this
      | inl s =>
        simp only [List.filter_cons]
        by_cases h1 : a + 1 ≤ s
        · have h2 : a ≤ s := by omega
          simp only [decide_eq_true h1, decide_eq_true h2, if_true, List.length_cons]
          omega
        · simp only [decide_eq_false h1]
          by_cases h2 : a ≤ s
          · exact absurd (by congr 1; omega) e
          · simp only [decide_eq_false h2]
            simpa using this
def sp_init (C : Addr) : Sp := fun vs H Q _ => ∃ (p dx : Addr), vs = [.ref p] ∧ H p = some (.ins C dx []) ∧ ∀ (d : Addr) (H' : Hp), H d = none → SlotsAt C H' p d 0 0 [] → (∀ x o, H x = some o → x ≠ p → H' x = some o) → Q .non H'
def sp_learn (C : Addr) : Sp := fun vs H Q _ => ∃ (p d : Addr) (b a s : Int) (v : V) (kvs : List (Key × V)), vs = [.ref p, .int s, v] ∧ SlotsAt C H p d b a kvs ∧ kvs.length ≤ 90000 ∧
  ((s < a ∨ hasK kvs s = true) → Q (.bl false) H) ∧ (¬ s < a → hasK kvs s = false → Q (.bl true) (upd H d (.dK (putK kvs (Sum.inl s) v))))
def sp_behind (C : Addr) : Sp := fun vs H Q _ => ∃ (p d : Addr) (b a : Int) (kvs : List (Key × V)), vs = [.ref p] ∧ SlotsAt C H p d b a kvs ∧ kvs.length ≤ 90000 ∧ (∀ kv ∈ kvs, ∃ s, kv.1 = Sum.inl s) ∧
  ∀ H', Same H H' → Q (.bl (!hasK kvs a && kvs.any fun kv => match kv.1 with | .inl s => decide (a < s) | _ => false)) H'
def sp_at (C : Addr) : Sp := fun vs H Q _ => ∃ (p d : Addr) (b a s : Int) (kvs : List (Key × V)), vs = [.ref p, .int s] ∧ SlotsAt C H p d b a kvs ∧
  ((s < b ∨ a ≤ s) → Q .non H) ∧ (b ≤ s → s < a → ∃ v, valV kvs (Sum.inl s) = some v ∧ Q v H)
/-- what is left of a dict below a key taken away -/
def keepFrom (kvs : List (Key × V)) (b : Int) : List (Key × V) := (kvs.filter fun kv => match kv.1 with | .inl s => decide (b ≤ s) | _ => false)
def Ints (kvs : List (Key × V)) : Prop := ∀ kv ∈ kvs, ∃ s, kv.1 = Sum.inl s
def sp_forget (C : Addr) : Sp := fun vs H Q _ => ∃ (p d : Addr) (b a n : Int) (kvs : List (Key × V)), vs = [.ref p, .int n] ∧ SlotsAt C H p d b a kvs ∧ kvs.length ≤ 90000 ∧ Ints kvs ∧ (kvs.map (·.1)).Nodup ∧
  ∀ (d' : Addr) (H' : Hp), H d' = none → SlotsAt C H' p d' n a (keepFrom kvs n) → (∀ x o, H x = some o → x ≠ p → H' x = some o) → Q .non H'
def sp_cut (C : Addr) : Sp := fun vs H Q _ => ∃ (p d : Addr) (b a n : Int) (kvs : List (Key × V)), vs = [.ref p, .int n] ∧ SlotsAt C H p d b a kvs ∧ kvs.length ≤ 90000 ∧ Ints kvs ∧ (kvs.map (·.1)).Nodup ∧
  (¬ (b < n ∧ n ≤ a) → Q .non H) ∧ (b < n → n ≤ a → ∀ (d' : Addr) (H' : Hp), H d' = none → SlotsAt C H' p d' n a (keepFrom kvs n) → (∀ x o, H x = some o → x ≠ p → H' x = some o) → Q .non H')
def sp_jump (C : Addr) : Sp := fun vs H Q _ => ∃ (p d : Addr) (b a n : Int) (kvs : List (Key × V)), vs = [.ref p, .int n] ∧ SlotsAt C H p d b a kvs ∧ kvs.length ≤ 90000 ∧ Ints kvs ∧ (kvs.map (·.1)).Nodup ∧
  (¬ a < n → Q .non H) ∧ (a < n → ∀ (d' : Addr) (H' : Hp), H d' = none → SlotsAt C H' p d' n n (keepFrom kvs n) → (∀ x o, H x = some o → x ≠ p → H' x = some o) → Q .non H')
/-- what is handed out: n slots from one on -/
def Taken (H : Hp) (kvs : List (Key × V)) (a : Int) (xs : List V) : Prop := ∀ (j : Nat) (x : V), xs[j]? = some x → ∃ t v, x = .ref t ∧ H t = some (.tup [.int (a + j), v]) ∧ valV kvs (Sum.inl (a + j)) = some v
def sp_take (C : Addr) : Sp := fun vs H Q _ => ∃ (p d : Addr) (b a : Int) (kvs : List (Key × V)), vs = [.ref p] ∧ SlotsAt C H p d b a kvs ∧ kvs.length ≤ 90000 ∧
  ∀ (q : Addr) (H' : Hp) (xs : List V), H q = none → H' q = some (.lst xs) → Taken H' kvs a xs → hasK kvs (a + xs.length) = false → SlotsAt C H' p d b (a + xs.length) kvs → (∀ x o, H x = some o → x ≠ p → H' x = some o) → Q (.ref q) H'
section
variable {P : Program} {w : World} {K : PySem.W.Frag} {mg : Str → Option Value} {base : Heap}
theorem ok_Slots___init__ (T : TX K mg) : FnOk P w K mg base CX0 1 T.a_Slots___init__ T.d_Slots___init__ ["self"] (sp_init T.a_Slots) := by
  refine T.F_Slots___init__.ok sc_Slots___init__ (fun vs H Q E h => ?_) (fun cdv A outer s H vs Q E hr h => ?_)
  · obtain ⟨p, dx, rfl, _⟩ := h
    rfl
  · obtain ⟨p, dx, rfl, hp, q⟩ := h
    refine ⟨_, (pss_cons (ps_fld (pv 0) pe_int rfl)
      (pss_cons (ps_fld (pv 0) pe_int rfl)
      (pss_one (ps_fld (pv 0) pe_dnewK rfl)))), ?_⟩
    refine ⟨_, rfl, p, T.a_Slots, dx, [], rfl, hp, T.K_Slots, T.na_Slots_base, (by show 0 < 1000; decide), ?_⟩
    refine ⟨_, rfl, p, T.a_Slots, dx, _, rfl, upd_same, T.K_Slots, T.na_Slots_applied, (by show 1 < 1000; decide), ?_⟩
    refine fun d hd => ⟨_, rfl, p, T.a_Slots, dx, putF "applied" (V.int 0) (putF "base" (V.int 0) []), rfl, ?_, T.K_Slots, T.na_Slots__known, ?_, ?_⟩
    · rw [upd_ne (fun z => by rw [← z, upd_same] at hd; cases hd), upd_same]
    · show (putF "applied" (V.int 0) [(("base" : Str), V.int 0)]).length < 1000
      unfold putF
      split <;> simp [putF]
    · have nd : d ≠ p := fun z => by rw [z, upd_same] at hd; cases hd
      have hd0 : H d = none := by rw [upd_ne nd, upd_ne nd] at hd; exact hd
      refine q d _ hd0 ⟨⟨dx, ?_⟩, ?_⟩ fun x o hx hxp => ?_
      · rw [upd_same, fl_Slots_new]
      · rw [upd_ne nd, upd_same]
      · rw [upd_ne hxp, upd_ne (ne_of_none hx hd0), upd_ne hxp, upd_ne hxp]
        exact hx
theorem ok_Slots_learn (T : TX K mg) : FnOk P w K mg base CX0 1 T.a_Slots_learn T.d_Slots_learn ["self", "slot", "value"] (sp_learn T.a_Slots) := by
  refine T.F_Slots_learn.ok sc_Slots_learn (fun vs H Q E h => ?_) (fun cdv A outer s H vs Q E hr h => ?_)
  · obtain ⟨p, d, b, a, s, v, kvs, rfl, _⟩ := h
    rfl
  · obtain ⟨p, d, b, a, s, v, kvs, rfl, ⟨⟨dx, hp⟩, hd⟩, hl, q0, q1⟩ := h
    refine ⟨_, (pss_cons (ps_if (PW.pt (pw_or (pt_cmpR op_lt (pv 1) (pe_fld (pv 0) rfl) (nomark _)) (pw_or1 (pt_cmp (pc_din (hu_of hr) (pv 1) (pe_fld (pv 0) rfl)))))) (pss_one (ps_ret pe_bl)) pss_nil)
      (pss_cons (ps_dput (hu_of hr) (pe_fld (pv 0) rfl) (pv 1) (pv 2) rfl)
      (pss_one (ps_ret pe_bl)))), ?_⟩
    refine ⟨_, rfl, _, rfl, p, _, dx, _, _, rfl, hp, T.K_Slots, T.na_Slots_applied, fl_Slots_applied, _, _, rfl, rfl, _, rfl, ifd (fun hc => ?_) (fun hc => ?_)⟩
    · exact q0 (.inl hc)
    refine ⟨_, rfl, _, rfl, p, _, dx, _, _, rfl, hp, T.K_Slots, T.na_Slots__known, fl_Slots__known, d, _, rfl, DGet.k (k := Sum.inl s) hd, _, rfl, ifb2 (fun hk => ?_) (fun hk => ?_)⟩
    · exact q0 (.inr hk)
    · refine ⟨_, rfl, _, rfl, p, _, dx, _, _, rfl, hp, T.K_Slots, T.na_Slots__known, fl_Slots__known, _, rfl, d, _, rfl, DPut.k (k := Sum.inl s) hd (szl (by omega)), ?_⟩
      exact q1 hc hk
theorem ok_Slots_value_at (T : TX K mg) : FnOk P w K mg base CX0 1 T.a_Slots_value_at T.d_Slots_value_at ["self", "slot"] (sp_at T.a_Slots) := by
  refine T.F_Slots_value_at.ok sc_Slots_value_at (fun vs H Q E h => ?_) (fun cdv A outer s H vs Q E hr h => ?_)
  · obtain ⟨p, d, b, a, s, kvs, rfl, _⟩ := h
    rfl
  · obtain ⟨p, d, b, a, s, kvs, rfl, ⟨⟨dx, hp⟩, hd⟩, q0, q1⟩ := h
    refine ⟨_, (pss_cons (ps_if (PW.pt (pw_or (pt_cmpR op_lt (pv 1) (pe_fld (pv 0) rfl) (nomark _)) (pw_or1 (pt_cmpR op_ge (pv 1) (pe_fld (pv 0) rfl) (nomark _))))) (pss_one (ps_ret pe_non)) pss_nil)
      (pss_one (ps_ret (pe_dget (hu_of hr) (pe_fld (pv 0) rfl) (pv 1) (fun _ _ => rfl))))), ?_⟩
    refine ⟨_, rfl, _, rfl, p, _, dx, _, _, rfl, hp, T.K_Slots, T.na_Slots_base, fl_Slots_base, _, _, rfl, rfl, _, rfl, ifd (fun hc => ?_) (fun hc => ?_)⟩
    · exact q0 (.inl hc)
    refine ⟨_, rfl, _, rfl, p, _, dx, _, _, rfl, hp, T.K_Slots, T.na_Slots_applied, fl_Slots_applied, _, _, rfl, rfl, _, rfl, ifd (fun hc2 => ?_) (fun hc2 => ?_)⟩
    · exact q0 (.inr hc2)
    · obtain ⟨v, hv, q⟩ := q1 (by omega) (by omega)
      exact ⟨_, rfl, p, _, dx, _, _, rfl, hp, T.K_Slots, T.na_Slots__known, fl_Slots__known, _, rfl, d, v, rfl, by rw [← hv]; exact DGet.k (k := Sum.inl s) hd, q⟩
theorem ok_Slots_take (T : TX K mg) : FnOk P w K mg base CX0 1 T.a_Slots_take T.d_Slots_take ["self"] (sp_take T.a_Slots) := by
  refine T.F_Slots_take.ok sc_Slots_take (fun vs H Q E h => ?_) (fun cdv A outer s H vs Q E hr h => ?_)
  · obtain ⟨p, d, b, a, kvs, rfl, _⟩ := h
    rfl
  · obtain ⟨p, d, b, a, kvs, rfl, ⟨⟨dx, hp⟩, hd⟩, hl, q⟩ := h
    refine ⟨_, (pss_cons (ps_set (i := 1) sc_Slots_take.nd rfl (Or.inl rfl) (pe_lst pa_nil))
      (pss_cons (ps_while PassesOwn.never (pt_cmp (pc_din (hu_of hr) (pe_fld (pv 0) rfl) (pe_fld (pv 0) rfl)))
        (pss_cons (ps_expr (pe_bm PySem.F.plainAttrs_list PySem.F.slot_list_append PySem.F.type_list_append mt_append (pv 1) (pa_cons (pe_tup (pa_cons (pe_fld (pv 0) rfl) (pa_cons (pe_dget (hu_of hr) (pe_fld (pv 0) rfl) (pe_fld (pv 0) rfl) (fun _ _ => rfl)) pa_nil))) pa_nil)))
        (pss_one (ps_fldaug (pv 0) pe_int in_add))))
      (pss_one (ps_ret (pv 1))))), ?_⟩
    refine ⟨Nat.zero_le _, fun o ho => ?_⟩
    have npo : p ≠ o := ne_of_none hp ho
    have ndo : d ≠ o := ne_of_none hd ho
    have npd : p ≠ d := ne_of hp hd (by intro z; cases z)
    have cb : ∀ x : Int, cntFrom kvs x ≤ kvs.length := fun x => List.length_filter_le _ _
    refine while_by (fun σ H' => ∃ xs : List V, σ = [some (.ref p), some (.ref o)] ∧ H' o = some (.lst xs) ∧ Taken H' kvs a xs ∧ H' p = some (.ins T.a_Slots dx (fl_Slots (.int b) (.int (a + xs.length)) (.ref d))) ∧ (∀ x u, H x = some u → x ≠ p → H' x = some u) ∧ xs.length + cntFrom kvs (a + xs.length) ≤ cntFrom kvs a)
      (fun _ H' => match H' o with | some (.lst xs) => cntFrom kvs (a + xs.length) | _ => 0)
      ⟨[], rfl, upd_same, fun j x h => by simp at h, by rw [upd_ne npo]; simpa using hp, fun x u hx _ => same_upd ho x u hx, by simp⟩ ?_
      (fun σ H Q Q' hq h => ?_)
    · rintro σ H' ⟨xs, rfl, e1, e2, e3, e4, e5⟩
      have hd' := e4 d _ hd npd.symm
      refine ⟨_, rfl, p, _, dx, _, _, rfl, e3, T.K_Slots, T.na_Slots_applied, fl_Slots_applied, _, rfl, p, _, dx, _, _, rfl, e3, T.K_Slots, T.na_Slots__known, fl_Slots__known, d, _, rfl, DGet.k (k := Sum.inl (a + xs.length)) hd', _, rfl, ifb2 (fun hk => ?_) (fun hk => ?_)⟩
      · have hless := cnt_less hk
        obtain ⟨v, hv⟩ := Option.isSome_iff_exists.mp hk
        have hxl : xs.length ≤ 90000 := by have := cb a; omega
        refine ⟨_, rfl, .inl ⟨rfl, _, sql e1⟩, _, rfl, p, _, dx, _, _, rfl, e3, T.K_Slots, T.na_Slots_applied, fl_Slots_applied, _, rfl, p, _, dx, _, _, rfl, e3, T.K_Slots, T.na_Slots__known, fl_Slots__known, _, rfl, p, _, dx, _, _, rfl, e3, T.K_Slots, T.na_Slots_applied, fl_Slots_applied, d, v, rfl, by rw [← hv]; exact DGet.k (k := Sum.inl (a + xs.length)) hd', (by show 2 ≤ sizeLine; decide), fun t ht => ?_⟩
        have not_ : o ≠ t := ne_of_none e1 ht
        have npt : p ≠ t := ne_of_none e3 ht
        refine ⟨o, xs, _, rfl, rfl, by rw [upd_ne not_]; exact e1, szl (by omega), ?_⟩
        have hp2 : (upd (upd H' t (.tup [.int (a + xs.length), v])) o (.lst (xs ++ [.ref t]))) p = some (.ins T.a_Slots dx (fl_Slots (.int b) (.int (a + xs.length)) (.ref d))) := by rw [upd_ne npo, upd_ne npt]; exact e3
        refine ⟨_, rfl, p, _, dx, _, _, rfl, hp2, T.K_Slots, T.na_Slots_applied, fl_Slots_applied, _, _, rfl, rfl, dx, _, hp2, by show 3 < 1000; decide, ?_⟩
        rw [pf_Slots_applied]
        have el : (xs ++ [V.ref t]).length = xs.length + 1 := by rw [List.length_append]; rfl
        have ea : a + ((xs.length + 1 : Nat) : Int) = a + xs.length + 1 := by omega
        refine ⟨⟨xs ++ [.ref t], rfl, by rw [upd_ne npo.symm, upd_same], fun j x hj => ?_, ?_, fun x u hx hxp => ?_, ?_⟩, ?_⟩
        · by_cases hjl : j < xs.length
          · rw [List.getElem?_append_left hjl] at hj
            obtain ⟨t', v', rfl, h1, h2⟩ := e2 j x hj
            have n1 : t' ≠ p := ne_of h1 e3 (by intro z; cases z)
            have n2 : t' ≠ o := ne_of h1 e1 (by intro z; cases z)
            exact ⟨t', v', rfl, by rw [upd_ne n1, upd_ne n2, upd_ne (ne_of_none h1 ht)]; exact h1, h2⟩
          · have hje : j = xs.length := by
              have := (List.getElem?_eq_some_iff.mp hj).1
              rw [el] at this
              omega
            subst hje
            rw [List.getElem?_append_right (Nat.le_refl _), Nat.sub_self] at hj
            have := Option.some.inj hj
            subst this
            exact ⟨t, v, rfl, by rw [upd_ne npt.symm, upd_ne not_.symm, upd_same], hv⟩
        · rw [upd_same, el, ea]
        · have n1 : x ≠ o := ne_of_none hx ho
          have hx' := e4 x u hx hxp
          rw [upd_ne hxp, upd_ne n1, upd_ne (ne_of_none hx' ht)]
          exact hx'
        · rw [el, ea]
          omega
        · show (match (upd (upd (upd H' t _) o _) p _) o with | some (HO.lst xs) => cntFrom kvs (a + xs.length) | _ => 0) < (match H' o with | some (HO.lst xs) => cntFrom kvs (a + xs.length) | _ => 0)
          rw [upd_ne npo.symm, upd_same, e1]
          show cntFrom kvs (a + ((xs ++ [V.ref t]).length : Int)) < cntFrom kvs (a + xs.length)
          rw [el, ea]
          exact hless
      · exact ⟨_, rfl, q o H' xs ho e1 e2 hk ⟨⟨dx, e3⟩, hd'⟩ e4⟩
    · obtain ⟨v, h1, x, C, dx, fs, y, h2, h3, h4, h5, h6, h7⟩ := h
      obtain ⟨v2, k1, x2, C2, dx2, fs2, y2, k2, k3, k4, k5, k6, dd, oo, g1, g2, z, g3, g4⟩ := h7
      exact ⟨v, h1, x, C, dx, fs, y, h2, h3, h4, h5, h6, v2, k1, x2, C2, dx2, fs2, y2, k2, k3, k4, k5, k6, dd, oo, g1, g2, z, g3, hq _ _ g4⟩
end
def Keep (H H' : Hp) : Prop := ∀ t xs, H t = some (.tup xs) → H' t = some (.tup xs)
def keyI : Key → Int | .inl s => s | _ => 0
theorem kv_at {kvs : List (Key × V)} {i : Nat} {k : Key} {v : V} (hi : Ints kvs) (h : kvs[i]? = some (k, v)) : ∃ s, k = Sum.inl s := by
  obtain ⟨s, e⟩ := hi _ (List.mem_of_getElem? h)
  exact ⟨s, e⟩
theorem val_ix : ∀ {kvs : List (Key × V)} {i : Nat} {k : Key} {v : V}, (kvs.map (·.1)).Nodup → kvs[i]? = some (k, v) → valV kvs k = some v := by
  intro kvs
  induction kvs with
  | nil => intro i k v _ h; simp at h
  | cons kv r ih =>
    intro i k v nd h
    cases i with
    | zero =>
      simp only [List.getElem?_cons_zero, Option.some.injEq] at h
      subst h
      exact valV_pos rfl
    | succ i =>
      simp only [List.getElem?_cons_succ] at h
      simp only [List.map_cons, List.nodup_cons] at nd
      obtain ⟨k0, v0⟩ := kv
      have hne : k0 ≠ k := fun z => nd.1 (by rw [z]; exact List.mem_map.mpr ⟨_, List.mem_of_getElem? h, rfl⟩)
      rw [valV_neg hne]
      exact ih nd.2 h
def later (kvs : List (Key × V)) (a : Int) : Bool := kvs.any fun kv => match kv.1 with | .inl s => decide (a < s) | _ => false
section
variable {P : Program} {w : World} {K : PySem.W.Frag} {mg : Str → Option Value} {base : Heap}
theorem ok_Slots_is_behind (T : TX K mg) : FnOk P w K mg base CX0 1 T.a_Slots_is_behind T.d_Slots_is_behind ["self"] (sp_behind T.a_Slots) := by
  refine T.F_Slots_is_behind.ok sc_Slots_is_behind (fun vs H Q E h => ?_) (fun cdv A outer s H vs Q E hr h => ?_)
  · obtain ⟨p, d, b, a, kvs, rfl, _⟩ := h
    rfl
  · obtain ⟨p, d, b, a, kvs, rfl, ⟨⟨dx, hp⟩, hd⟩, hl, hi, q⟩ := h
    refine ⟨_, (pss_cons (ps_if (pt_cmp (pc_din (hu_of hr) (pe_fld (pv 0) rfl) (pe_fld (pv 0) rfl))) (pss_one (ps_ret pe_bl)) pss_nil)
      (pss_one (ps_ret (pe_callB (cr_any rfl) (by rfl) T.n_any (by decide +kernel) (pa_cons (pe_lock (pe_lc (own := [("slot", 1)]) (g := gName 1) (tt := tYes) (by rfl) sc_Slots_is_behind.nd (pi_keys (pe_fld (pv 0) rfl)) (blkOk_by (own := [("slot", 1)]) (N := ["self", "slot"]) (sc := defScope s_Slots_is_behind) (by decide +kernel)) (fun _ _ _ _ _ => pg_name (i := 1) sc_Slots_is_behind.nd rfl (Or.inl rfl)) (fun _ _ _ _ _ => pts_nil) (fun _ _ _ _ _ => (pe_cmpR op_gt (pv 1) (pe_fldK (K := K) rfl (pv 0) rfl) (nomark _))))) pa_nil))))), ?_⟩
    have npd : p ≠ d := ne_of hp hd (by intro z; cases z)
    refine ⟨_, rfl, p, _, dx, _, _, rfl, hp, T.K_Slots, T.na_Slots_applied, fl_Slots_applied, _, rfl, p, _, dx, _, _, rfl, hp, T.K_Slots, T.na_Slots__known, fl_Slots__known, d, _, rfl, DGet.k (k := Sum.inl a) hd, _, rfl, ifb2 (fun hk => ?_) (fun hk => ?_)⟩
    · have := q H (Same.refl _)
      have e : hasK kvs a = true := hk
      rw [e] at this
      exact this
    · have e : hasK kvs a = false := hk
      rw [e] at q
      refine lc_keys d kvs (fun _ => true) (fun k => match k with | .inl s => .bl (decide (s > a)) | _ => .bl false) hd hl (fun od => ei_fld rfl (by rw [upd_ne npd]; exact hp) T.K_Slots T.na_Slots__known fl_Slots__known) (fun _ => rfl) (fun od i k v G Q' _ _ q => q) (fun od i k v G Q' hk s q => ?_) (fun D H' hD hs hl => ?_)
      · obtain ⟨x, rfl⟩ := kv_at hi hk
        exact ⟨_, rfl, _, rfl, p, _, dx, _, _, rfl, s _ _ (by rw [upd_ne npd]; exact hp), T.K_Slots, T.na_Slots_applied, fl_Slots_applied, _, _, rfl, rfl, q⟩
      · refine ⟨D, kvs.map fun kv => match kv.1 with | .inl s => decide (a < s) | _ => false, rfl, sql ?_, ?_⟩
        · rw [hl, List.filter_eq_self.mpr (fun _ _ => rfl), List.map_map]
          congr 2
          apply List.map_congr_left
          rintro ⟨k, v⟩ _
          cases k <;> rfl
        · have := q H' hs
          rw [List.any_map]
          exact this
theorem ok_Slots__forget_below (T : TX K mg) : FnOk P w K mg base CX0 1 T.a_Slots__forget_below T.d_Slots__forget_below ["self", "base"] (sp_forget T.a_Slots) := by
  refine T.F_Slots__forget_below.ok sc_Slots__forget_below (fun vs H Q E h => ?_) (fun cdv A outer s H vs Q E hr h => ?_)
  · obtain ⟨p, d, b, a, n, kvs, rfl, _⟩ := h
    rfl
  · obtain ⟨p, d, b, a, n, kvs, rfl, ⟨⟨dx, hp⟩, hd⟩, hl, hi, nd, q⟩ := h
    refine ⟨_, (pss_cons (ps_fld (pv 0) (pv 1) rfl)
      (pss_one (ps_fld (pv 0) (pe_lock (pe_dc (own := [("slot", 2)]) (g := gName 2)  (by rfl) sc_Slots__forget_below.nd (pi_keys (pe_fld (pv 0) rfl)) (blkOk_by (own := [("slot", 2)]) (N := ["self", "base", "slot"]) (sc := defScope s_Slots__forget_below) (by decide +kernel)) (fun _ _ _ _ _ => pg_name (i := 2) sc_Slots__forget_below.nd rfl (Or.inl rfl)) (fun _ _ _ _ _ => pts_one (pt_cmpR op_ge (pv 2) (pv 1) (nomark _))) (fun _ _ _ _ _ => (pv 2)) (fun _ _ _ _ _ => (pe_dget (hu_of hr) (pe_fldK (K := K) rfl (pv 0) rfl) (pv 2) (fun _ _ => rfl))))) rfl))), ?_⟩
    have npd : p ≠ d := ne_of hp hd (by intro z; cases z)
    refine ⟨_, rfl, _, rfl, p, T.a_Slots, dx, _, rfl, hp, T.K_Slots, T.na_Slots_base, (by show 3 < 1000; decide), ?_⟩
    rw [pf_Slots_base]
    have hd2 : (upd H p (.ins T.a_Slots dx (fl_Slots (.int n) (.int a) (.ref d)))) d = some (.dK kvs) := by rw [upd_ne npd.symm]; exact hd
    dsimp only [L2.sFld]
    refine dc_keys (s := 2) d kvs (fun k => decide (keyI k ≥ n)) (fun kv => kv.2) hd2 hl nd (fun od => ei_fld rfl (by rw [upd_ne npd, upd_same]) T.K_Slots T.na_Slots__known fl_Slots__known) ?_ (fun od i k v G Q' hk _ q => ?_) (fun od i k v G Q' hk hf s q => ?_) ?_ (fun D H' hD hs hl => ?_)
    · exact fun _ => rfl
    · obtain ⟨x, rfl⟩ := kv_at hi hk
      exact ⟨_, rfl, _, rfl, _, _, rfl, rfl, _, rfl, q⟩
    · obtain ⟨x, rfl⟩ := kv_at hi hk
      refine ⟨_, rfl, p, _, dx, _, _, rfl, s _ _ (by rw [upd_ne npd, upd_same]), T.K_Slots, T.na_Slots__known, fl_Slots__known, _, rfl, d, v, rfl, ?_, q⟩
      rw [← val_ix nd hk]
      exact .inl ⟨kvs, _, .inr ⟨od, s _ _ upd_same⟩, rfl, rfl⟩
    · intro i h
      rw [← h]
      exact Nat.lt_succ_self 2
    · have nDp : D ≠ p := fun z => by rw [z, upd_same] at hD; cases hD
      have hD0 : H D = none := by rw [upd_ne nDp] at hD; exact hD
      refine ⟨_, rfl, p, T.a_Slots, dx, _, rfl, hs _ _ upd_same, T.K_Slots, T.na_Slots__known, (by show 3 < 1000; decide), ?_⟩
      rw [pf_Slots__known]
      refine q D _ hD0 ⟨⟨dx, upd_same⟩, ?_⟩ fun x o hx hxp => ?_
      · rw [upd_ne nDp, hl]
        have : (kvs.filter fun kv => decide (keyI kv.1 ≥ n)) = keepFrom kvs n := by
          unfold keepFrom
          apply List.filter_congr
          rintro ⟨k, v⟩ hm
          obtain ⟨x, rfl⟩ := hi _ hm
          rfl
        rw [this]
        simp
      · rw [upd_ne hxp]
        exact hs _ _ (by rw [upd_ne hxp]; exact hx)
theorem ok_Slots_cut (T : TX K mg) : FnOk P w K mg base CX0 2 T.a_Slots_cut T.d_Slots_cut ["self", "base"] (sp_cut T.a_Slots) := by
  refine T.F_Slots_cut.ok sc_Slots_cut (fun vs H Q E h => ?_) (fun cdv A outer s H vs Q E hr h => ?_)
  · obtain ⟨p, d, b, a, n, kvs, rfl, _⟩ := h
    rfl
  · obtain ⟨p, d, b, a, n, kvs, rfl, ⟨⟨dx, hp⟩, hd⟩, hl, hi, nd, q0, q1⟩ := h
    refine ⟨_, (pss_one (ps_if (pt_chain op_lt op_le (pe_fld (pv 0) rfl) (pv 1) (pe_fld (pv 0) rfl)) (pss_one (ps_expr (pe_meth (pv 0) T.K_Slots T.m_Slots__forget_below (ok_Slots__forget_below T) (hr.mono (by decide)) T.b_Slots__forget_below .nil pass0 (pa_cons (pv 1) pa_nil)))) pss_nil)), ?_⟩
    refine ⟨_, rfl, p, _, dx, _, _, rfl, hp, T.K_Slots, T.na_Slots_base, fl_Slots_base, _, rfl, _, _, rfl, rfl, _, rfl, ifd (fun h1 => ?_) (fun h1 => ?_)⟩
    · refine ⟨_, rfl, p, _, dx, _, _, rfl, hp, T.K_Slots, T.na_Slots_applied, fl_Slots_applied, _, _, rfl, rfl, _, rfl, ifd (fun h2 => ?_) (fun h2 => ?_)⟩
      · refine ⟨_, rfl, p, dx, _, rfl, hp, rfl, _, rfl, p, d, b, a, n, kvs, rfl, ⟨⟨dx, hp⟩, hd⟩, hl, hi, nd, ?_⟩
        exact q1 h1 h2
      · exact q0 fun h => h2 h.2
    · exact ⟨false, rfl, (if_neg Bool.false_ne_true).mpr (q0 fun h => h1 h.1)⟩
theorem ok_Slots_jump (T : TX K mg) : FnOk P w K mg base CX0 2 T.a_Slots_jump T.d_Slots_jump ["self", "base"] (sp_jump T.a_Slots) := by
  refine T.F_Slots_jump.ok sc_Slots_jump (fun vs H Q E h => ?_) (fun cdv A outer s H vs Q E hr h => ?_)
  · obtain ⟨p, d, b, a, n, kvs, rfl, _⟩ := h
    rfl
  · obtain ⟨p, d, b, a, n, kvs, rfl, ⟨⟨dx, hp⟩, hd⟩, hl, hi, nd, q0, q1⟩ := h
    refine ⟨_, (pss_one (ps_if (pt_cmpR op_gt (pv 1) (pe_fld (pv 0) rfl) (nomark _)) (pss_cons (ps_fld (pv 0) (pv 1) rfl)
        (pss_one (ps_expr (pe_meth (pv 0) T.K_Slots T.m_Slots__forget_below (ok_Slots__forget_below T) (hr.mono (by decide)) T.b_Slots__forget_below .nil pass0 (pa_cons (pv 1) pa_nil))))) pss_nil)), ?_⟩
    have npd : p ≠ d := ne_of hp hd (by intro z; cases z)
    refine ⟨_, rfl, _, rfl, p, _, dx, _, _, rfl, hp, T.K_Slots, T.na_Slots_applied, fl_Slots_applied, _, _, rfl, rfl, _, rfl, ifd (fun h1 => ?_) (fun h1 => ?_)⟩
    · refine ⟨_, rfl, _, rfl, p, T.a_Slots, dx, _, rfl, hp, T.K_Slots, T.na_Slots_applied, (by show 3 < 1000; decide), ?_⟩
      rw [pf_Slots_applied]
      refine ⟨_, rfl, p, dx, _, rfl, upd_same, rfl, _, rfl, p, d, b, n, n, kvs, rfl, ⟨⟨dx, upd_same⟩, by rw [upd_ne npd.symm]; exact hd⟩, hl, hi, nd, fun d' H' h0 hS hK => ?_⟩
      have n0 : d' ≠ p := fun z => by rw [z, upd_same] at h0; cases h0
      rw [upd_ne n0] at h0
      exact q1 (by omega) d' H' h0 hS fun x o hx hxp => hK x o (by rw [upd_ne hxp]; exact hx) hxp
    · exact q0 (by omega)
end
def sp_taken : Sp := fun vs H Q _ => ∃ (m dm : Addr) (b a : Int) (kvs : List (Key × V)), vs = [.ref m] ∧ H m = some (.lst [.int b, .int a, .ref dm]) ∧ H dm = some (.dK kvs) ∧ kvs.length ≤ 150 ∧
  ∀ (q : Addr) (H' : Hp) (xs : List V), H q = none → H' q = some (.lst xs) → Taken H' kvs a xs → hasK kvs (a + xs.length) = false → xs.length ≤ kvs.length → H' m = some (.lst [.int b, .int (a + xs.length), .ref dm]) → (∀ x o, H x = some o → x ≠ m → H' x = some o) → Q (.ref q) H'
def sp_lforget : Sp := fun vs H Q _ => ∃ (m dm : Addr) (b a n : Int) (kvs : List (Key × V)), vs = [.ref m, .int n] ∧ H m = some (.lst [.int b, .int a, .ref dm]) ∧ H dm = some (.dK kvs) ∧ kvs.length ≤ 150 ∧ Ints kvs ∧ (kvs.map (·.1)).Nodup ∧
  ∀ (dm' : Addr) (H' : Hp), H dm' = none → H' m = some (.lst [.int n, .int a, .ref dm']) → H' dm' = some (.dK (keepFrom kvs n)) → (∀ x o, H x = some o → x ≠ m → H' x = some o) → Q .non H'
section
variable {P : Program} {w : World} {K : PySem.W.Frag} {mg : Str → Option Value} {base : Heap}
theorem ok__law_taken (T : TX K mg) : FnOk P w K mg base CX0 1 T.a__law_taken T.d__law_taken ["model"] sp_taken := by
  refine T.F__law_taken.ok sc__law_taken (fun vs H Q E h => ?_) (fun cdv A outer s H vs Q E hr h => ?_)
  · obtain ⟨m, dm, b, a, kvs, rfl, _⟩ := h
    rfl
  · obtain ⟨m, dm, b, a, kvs, rfl, hm, hd, hl, q⟩ := h
    refine ⟨_, (pss_cons (ps_set (i := 1) sc__law_taken.nd rfl (Or.inl rfl) (pe_lst pa_nil))
      (pss_cons (ps_for PassesOwn.never rfl (pi_range1 (by rfl) T.n_range (pa_cons pe_int pa_nil)) (pg_name (i := 2) sc__law_taken.nd rfl (Or.inl rfl))
        (pss_one (ps_if (pt_cmp (pc_din (hu_of hr) (pe_ix ix_list (pv 0) pe_int (fun _ _ => rfl)) (pe_ix ix_list (pv 0) pe_int (fun _ _ => rfl)))) (pss_cons (ps_expr (pe_bm PySem.F.plainAttrs_list PySem.F.slot_list_append PySem.F.type_list_append mt_append (pv 1) (pa_cons (pe_tup (pa_cons (pe_ix ix_list (pv 0) pe_int (fun _ _ => rfl)) (pa_cons (pe_dget (hu_of hr) (pe_ix ix_list (pv 0) pe_int (fun _ _ => rfl)) (pe_ix ix_list (pv 0) pe_int (fun _ _ => rfl)) (fun _ _ => rfl)) pa_nil))) pa_nil)))
          (pss_one (ps_asg (pe_op op_add (pe_ix ix_list (pv 0) pe_int (fun _ _ => rfl)) pe_int) (pg_sub (pv 0) pe_int set_list)))) pss_nil)))
      (pss_one (ps_ret (pv 1))))), ?_⟩
    have nmd : m ≠ dm := ne_of hm hd (by intro z; cases z)
    have cb : ∀ x, cntFrom kvs x ≤ kvs.length := fun x => List.length_filter_le _ _
    refine ⟨Nat.zero_le _, fun o ho => ?_⟩
    have nmo : m ≠ o := ne_of_none hm ho
    refine ⟨200, rfl, by decide, by decide, for_range (lo := 0) (n := 200) (fun i σ H' => ∃ (xs : List V) (x2 : Option V), σ = [some (.ref m), some (.ref o), x2] ∧ H' o = some (.lst xs) ∧ Taken H' kvs a xs ∧ H' m = some (.lst [.int b, .int (a + xs.length), .ref dm]) ∧ (∀ x u, H x = some u → x ≠ m → H' x = some u) ∧ xs.length + cntFrom kvs (a + xs.length) ≤ cntFrom kvs a ∧ (xs.length = i ∨ hasK kvs (a + xs.length) = false))
      ⟨[], none, rfl, upd_same, fun j x h => by simp at h, by rw [upd_ne nmo]; simpa using hm, fun x u hx _ => same_upd ho x u hx, by simp, .inl rfl⟩ ?_ ?_⟩
    · rintro i σ H' hi ⟨xs, x2, rfl, e1, e2, e3, e4, e5, e6⟩
      have hd' := e4 dm _ hd nmd.symm
      refine ⟨_, rfl, m, _, 1, _, rfl, rfl, sql e3, rfl, _, rfl, m, _, 2, _, rfl, rfl, sql e3, rfl, dm, _, rfl, DGet.k (k := Sum.inl (a + xs.length)) hd', _, rfl, ifb2 (fun hk => ?_) (fun hk => ?_)⟩
      · have hless := cnt_less hk
        obtain ⟨v, hv⟩ := Option.isSome_iff_exists.mp hk
        have hxi : xs.length = i := e6.elim id fun z => by
          have hk' : hasK kvs (a + xs.length) = true := hk
          rw [z] at hk'; cases hk'
        refine ⟨_, rfl, .inl ⟨rfl, _, sql e1⟩, _, rfl, m, _, 1, _, rfl, rfl, sql e3, rfl, _, rfl, m, _, 2, _, rfl, rfl, sql e3, rfl, _, rfl, m, _, 1, _, rfl, rfl, sql e3, rfl, dm, v, rfl, by rw [← hv]; exact DGet.k (k := Sum.inl (a + xs.length)) hd', (by show 2 ≤ sizeLine; decide), fun t ht => ?_⟩
        have nto : o ≠ t := ne_of_none e1 ht
        have nmt : m ≠ t := ne_of_none e3 ht
        refine ⟨o, xs, _, rfl, rfl, by rw [upd_ne nto]; exact e1, szl (by omega), ?_⟩
        have hm2 : (upd (upd H' t (.tup [.int (a + xs.length), v])) o (.lst (xs ++ [.ref t]))) m = some (.lst [.int b, .int (a + xs.length), .ref dm]) := by rw [upd_ne nmo, upd_ne nmt]; exact e3
        refine ⟨_, rfl, m, _, 1, _, rfl, rfl, sql hm2, rfl, _, _, rfl, rfl, _, rfl, m, _, 1, 1, rfl, rfl, hm2, rfl, ?_⟩
        have el : (xs ++ [V.ref t]).length = xs.length + 1 := by rw [List.length_append]; rfl
        have ea : a + ((xs.length + 1 : Nat) : Int) = a + xs.length + 1 := by omega
        refine ⟨xs ++ [.ref t], _, rfl, by rw [upd_ne nmo.symm, upd_same], fun j x hj => ?_, ?_, fun x u hx hxm => ?_, ?_, .inl (by rw [el, hxi])⟩
        · by_cases hjl : j < xs.length
          · rw [List.getElem?_append_left hjl] at hj
            obtain ⟨t', v', rfl, h1, h2⟩ := e2 j x hj
            have n1 : t' ≠ m := ne_of h1 e3 (by intro z; cases z)
            have n2 : t' ≠ o := ne_of h1 e1 (by intro z; cases z)
            exact ⟨t', v', rfl, by rw [upd_ne n1, upd_ne n2, upd_ne (ne_of_none h1 ht)]; exact h1, h2⟩
          · have hje : j = xs.length := by
              have := (List.getElem?_eq_some_iff.mp hj).1
              rw [el] at this
              omega
            subst hje
            rw [List.getElem?_append_right (Nat.le_refl _), Nat.sub_self] at hj
            have := Option.some.inj hj
            subst this
            exact ⟨t, v, rfl, by rw [upd_ne nmt.symm, upd_ne nto.symm, upd_same], hv⟩
        · rw [upd_same, el, ea]
          rfl
        · have n1 : x ≠ o := ne_of_none hx ho
          have hx' := e4 x u hx hxm
          rw [upd_ne hxm, upd_ne n1, upd_ne (ne_of_none hx' ht)]
          exact hx'
        · rw [el, ea]
          omega
      · exact ⟨xs, _, rfl, e1, e2, e3, e4, e5, .inr hk⟩
    · rintro σ H' ⟨xs, x2, rfl, e1, e2, e3, e4, e5, e6⟩
      refine ⟨_, rfl, q o H' xs ho e1 e2 (e6.elim (fun z => ?_) id) (by have := cb a; omega) e3 e4⟩
      have := cb a
      omega
theorem ok__law_forget (T : TX K mg) : FnOk P w K mg base CX0 1 T.a__law_forget T.d__law_forget ["model", "base"] sp_lforget := by
  refine T.F__law_forget.ok sc__law_forget (fun vs H Q E h => ?_) (fun cdv A outer s H vs Q E hr h => ?_)
  · obtain ⟨m, dm, b, a, n, kvs, rfl, _⟩ := h
    rfl
  · obtain ⟨m, dm, b, a, n, kvs, rfl, hm, hd, hl, hi, nd, q⟩ := h
    refine ⟨_, (pss_cons (ps_set (i := 2) sc__law_forget.nd rfl (Or.inl rfl) pe_dnewK)
      (pss_cons (ps_lock (ps_for PassesOwn.never rfl (pi_keys (pe_ix ix_list (pv 0) pe_int (fun _ _ => rfl))) (pg_name (i := 3) sc__law_forget.nd rfl (Or.inl rfl))
        (pss_one (ps_if (pt_cmpR op_ge (pv 3) (pv 1) (nomark _)) (pss_one (ps_dput (hu_of hr) (pv 2) (pv 3) (pe_dget (hu_of hr) (pe_ix ix_list (pv 0) pe_int (fun _ _ => rfl)) (pv 3) (fun _ _ => rfl)) rfl)) pss_nil))))
      (pss_cons (ps_asg (pv 2) (pg_sub (pv 0) pe_int set_list))
      (pss_one (ps_asg (pv 1) (pg_sub (pv 0) pe_int set_list)))))), ?_⟩
    have nmd : m ≠ dm := ne_of hm hd (by intro z; cases z)
    refine fun o ho => ?_
    have nmo : m ≠ o := ne_of_none hm ho
    have ndo : dm ≠ o := ne_of_none hd ho
    have hd1 : (upd H o (.dK [])) dm = some (.dK kvs) := by rw [upd_ne ndo]; exact hd
    refine ⟨dm, _, hd1, trivial, fun od => ⟨_, rfl, m, _, 2, _, rfl, rfl, sql (by rw [upd_ne nmd, upd_ne nmo]; exact hm), rfl, dm, od, rfl, .inl ⟨kvs, upd_same, ?_⟩⟩⟩
    refine for_it walk_keys (fun i σ G => ∃ (x3 : Option V), σ = [some (.ref m), some (.int n), some (.ref o), x3] ∧ G dm = some (.frz od (.dK kvs)) ∧ G o = some (.dK (keepFrom (kvs.take i) n)) ∧ G m = some (.lst [.int b, .int a, .ref dm]) ∧ (∀ x u, H x = some u → x ≠ dm → G x = some u))
      ⟨none, rfl, upd_same, by rw [upd_ne ndo.symm, upd_same]; rfl, by rw [upd_ne nmd, upd_ne nmo]; exact hm, fun x u hx hxd => by rw [upd_ne hxd, upd_ne (ne_of_none hx ho)]; exact hx⟩ (fun i σ G _ h => h.elim fun _ h => h.2.1) ?_ ?_
    · rintro i x σ G G' hlt ⟨x3, rfl, e1, e2, e3, e4⟩ ⟨rfl, key, v, hkv, rfl⟩
      obtain ⟨s, rfl⟩ := kv_at hi hkv
      have hts : keepFrom (kvs.take (i + 1)) n = keepFrom (kvs.take i) n ++ if decide (n ≤ s) then [(Sum.inl s, v)] else [] := take_filter _ hkv
      refine ⟨_, rfl, _, rfl, _, _, rfl, rfl, _, rfl, ifd (fun hc => ?_) (fun hc => ?_)⟩
      · have hfl : (keepFrom (kvs.take i) n).length ≤ 150 := Nat.le_trans (List.length_filter_le _ _) (by rw [List.length_take]; omega)
        refine ⟨_, rfl, m, _, 2, _, rfl, rfl, sql e3, rfl, _, rfl, dm, v, rfl, ?_, _, rfl, _, rfl, o, _, rfl, DPut.k (k := Sum.inl s) e2 (szl (by omega)), ?_⟩
        · rw [← val_ix nd hkv]
          exact .inl ⟨kvs, _, .inr ⟨od, e1⟩, rfl, rfl⟩
        · refine ⟨_, rfl, by rw [upd_ne ndo]; exact e1, ?_, by rw [upd_ne nmo]; exact e3, fun x u hx hxd => by rw [upd_ne (ne_of_none hx ho)]; exact e4 x u hx hxd⟩
          rw [upd_same, hts, put_fresh]
          · have hc' : n ≤ s := hc
            simp [hc']
          · intro kv hmem
            exact nd_ne nd hkv kv (List.mem_filter.mp hmem).1
      · refine ⟨_, rfl, e1, ?_, e3, e4⟩
        rw [hts]
        have hc' : ¬ n ≤ s := hc
        simpa [hc'] using e2
    · rintro σ G ⟨x3, rfl, e1, e2, e3, e4⟩
      rw [List.take_length] at e2
      refine ⟨e1, ?_⟩
      have hm2 : (upd G dm (.dK kvs)) m = some (.lst [.int b, .int a, .ref dm]) := by rw [upd_ne nmd]; exact e3
      refine ⟨_, rfl, _, rfl, m, _, 2, 2, rfl, rfl, hm2, rfl, ?_⟩
      refine ⟨_, rfl, _, rfl, m, _, 0, 0, rfl, rfl, upd_same, rfl, ?_⟩
      refine q o _ ho upd_same ?_ fun x u hx hxm => ?_
      · rw [upd_ne nmo.symm, upd_ne nmo.symm, upd_ne ndo.symm]
        exact e2
      · rw [upd_ne hxm, upd_ne hxm]
        by_cases hxd : x = dm
        · subst hxd
          rw [upd_same, ← hd]
          exact hx
        · rw [upd_ne hxd]
          exact e4 x u hx hxd
end
def VAt (H : Hp) (v : V) (k : Int) : Prop := ∃ t, v = .ref t ∧ H t = some (.tup [.str "v", .int k])
def KV (H : Hp) : List (Key × V) → List (Int × Int) → Prop
  | [], [] => True
  | (k, v) :: r, (s, j) :: ps => k = Sum.inl s ∧ VAt H v j ∧ KV H r ps
  | _, _ => False
theorem vat_keep {H H' : Hp} (h : Keep H H') {v : V} {k : Int} : VAt H v k → VAt H' v k := fun ⟨t, e, q⟩ => ⟨t, e, h _ _ q⟩
theorem kv_keep {H H' : Hp} (h : Keep H H') : ∀ {kvs : List (Key × V)} {ps : List (Int × Int)}, KV H kvs ps → KV H' kvs ps
  | [], [], _ => trivial
  | (k, v) :: r, (s, j) :: ps, ⟨e, q, g⟩ => ⟨e, vat_keep h q, kv_keep h g⟩
theorem kv_len {H : Hp} : ∀ {kvs : List (Key × V)} {ps : List (Int × Int)}, KV H kvs ps → kvs.length = ps.length
  | [], [], _ => rfl
  | (k, v) :: r, (s, j) :: ps, ⟨e, q, g⟩ => by simp [kv_len g]
theorem kv_keys {H : Hp} : ∀ {kvs : List (Key × V)} {ps : List (Int × Int)}, KV H kvs ps → kvs.map (·.1) = ps.map fun p => (Sum.inl p.1 : Key)
  | [], [], _ => rfl
  | (k, v) :: r, (s, j) :: ps, ⟨e, q, g⟩ => by simp [e, kv_keys g]
theorem kv_ints {H : Hp} {kvs : List (Key × V)} {ps : List (Int × Int)} (h : KV H kvs ps) : Ints kvs := fun kv hm => by
  have : kv.1 ∈ kvs.map (·.1) := List.mem_map.mpr ⟨kv, hm, rfl⟩
  rw [kv_keys h] at this
  obtain ⟨p, _, e⟩ := List.mem_map.mp this
  exact ⟨p.1, e.symm⟩
theorem kv_nd {H : Hp} {kvs : List (Key × V)} {ps : List (Int × Int)} (h : KV H kvs ps) (nd : (ps.map (·.1)).Nodup) : (kvs.map (·.1)).Nodup := by
  rw [kv_keys h]
  have : (ps.map fun p => (Sum.inl p.1 : Key)) = (ps.map (·.1)).map fun s => (Sum.inl s : Key) := by rw [List.map_map]; rfl
  rw [this]
  exact List.Pairwise.map _ (fun a b hab z => hab (Sum.inl.inj z)) nd
/-- the number that stands at a slot -/
def atP (ps : List (Int × Int)) (s : Int) : Option Int := (ps.find? fun p => decide (p.1 = s)).map (·.2)
theorem kv_val {H : Hp} {s : Int} : ∀ {kvs : List (Key × V)} {ps : List (Int × Int)}, KV H kvs ps → (atP ps s = none ∧ valV kvs (Sum.inl s) = none) ∨ ∃ j v, atP ps s = some j ∧ valV kvs (Sum.inl s) = some v ∧ VAt H v j
  | [], [], _ => .inl ⟨rfl, rfl⟩
  | (k, v) :: r, (s', j) :: ps, ⟨e, q, g⟩ => by
    subst e
    by_cases hs : s' = s
    · subst hs
      exact .inr ⟨j, v, by simp [atP], valV_pos rfl, q⟩
    · have hne : (Sum.inl s' : Key) ≠ Sum.inl s := fun z => hs (Sum.inl.inj z)
      have e1 : atP ((s', j) :: ps) s = atP ps s := by
        unfold atP
        rw [List.find?_cons_of_neg (by simpa using hs)]
      rw [e1, valV_neg hne]
      exact kv_val g
theorem kv_has {H : Hp} {kvs : List (Key × V)} {ps : List (Int × Int)} (h : KV H kvs ps) (s : Int) : hasK kvs s = (atP ps s).isSome := by
  unfold hasK
  rcases kv_val (s := s) h with ⟨e1, e2⟩ | ⟨j, v, e1, e2, _⟩ <;> rw [e1, e2] <;> rfl
theorem kv_keepFrom {H : Hp} {n : Int} : ∀ {kvs : List (Key × V)} {ps : List (Int × Int)}, KV H kvs ps → KV H (keepFrom kvs n) (ps.filter fun p => decide (n ≤ p.1))
  | [], [], _ => trivial
  | (k, v) :: r, (s, j) :: ps, ⟨e, q, g⟩ => by
    subst e
    have ih := kv_keepFrom (n := n) g
    unfold keepFrom at ih ⊢
    simp only [List.filter_cons]
    by_cases h : n ≤ s
    · simp only [decide_eq_true h, if_true]
      exact ⟨rfl, q, ih⟩
    · simp only [decide_eq_false h]
      exact ih
theorem kv_more {H : Hp} {s k : Int} {v : V} (hv : VAt H v k) : ∀ {kvs : List (Key × V)} {ps : List (Int × Int)}, KV H kvs ps → KV H (kvs ++ [(Sum.inl s, v)]) (ps ++ [(s, k)])
  | [], [], _ => ⟨rfl, hv, trivial⟩
  | (k', v') :: r, (s', j) :: ps, ⟨e, q, g⟩ => ⟨e, q, kv_more hv g⟩
theorem kv_later {H : Hp} {a : Int} : ∀ {kvs : List (Key × V)} {ps : List (Int × Int)}, KV H kvs ps → later kvs a = ps.any fun p => decide (a < p.1)
  | [], [], _ => rfl
  | (k, v) :: r, (s, j) :: ps, ⟨e, q, g⟩ => by
    subst e
    have := kv_later (a := a) g
    unfold later at this ⊢
    rw [List.any_cons, List.any_cons, this]
theorem kv_flt {H : Hp} {a : Int} : ∀ {kvs : List (Key × V)} {ps : List (Int × Int)}, KV H kvs ps → decide (((kvs.filter fun kv => decide (keyI kv.1 > a)).map fun kv => kV kv.1).length > 0) = later kvs a
  | [], [], _ => rfl
  | (k, v) :: r, (s, j) :: ps, ⟨e, q, g⟩ => by
    subst e
    have := kv_flt (a := a) g
    unfold later at this ⊢
    rw [List.any_cons, ← this]
    simp only [List.filter_cons]
    by_cases h : a < s
    · have h' : keyI (Sum.inl s) > a := h
      simp only [decide_eq_true h', decide_eq_true h, if_true, Bool.true_or]
      simp
    · have h' : ¬ keyI (Sum.inl s) > a := h
      simp only [decide_eq_false h', decide_eq_false h, Bool.false_or]
      simp
theorem atP_in {ps : List (Int × Int)} {s : Int} : (atP ps s).isSome = ps.any fun p => decide (p.1 = s) := by
  unfold atP
  rw [Option.isSome_map]
  induction ps with
  | nil => rfl
  | cons p r ih =>
    rw [List.any_cons]
    by_cases h : p.1 = s
    · rw [List.find?_cons_of_pos (by simpa using h)]
      simp [h]
    · rw [List.find?_cons_of_neg (by simpa using h), ih]
      simp [h]
structure Both (C : Addr) (H : Hp) (p d m dm : Addr) (b a : Int) (kvs kvm : List (Key × V)) (ps : List (Int × Int)) : Prop where
  sl : SlotsAt C H p d b a kvs
  mo : H m = some (.lst [.int b, .int a, .ref dm])
  md : H dm = some (.dK kvm)
  k1 : KV H kvs ps
  k2 : KV H kvm ps
  le : ps.length ≤ 100
  nd : (ps.map (·.1)).Nodup
  b0 : 0 ≤ b
  ba : b ≤ a
  al : a ≤ 100000
  cov : ∀ s, b ≤ s → s < a → (atP ps s).isSome = true
  ne : d ≠ dm
theorem same_keep {H H' : Hp} (s : Same H H') : Keep H H' := fun t xs h => s t _ h
theorem Both.same {C : Addr} {H H' : Hp} {p d m dm : Addr} {b a : Int} {kvs kvm : List (Key × V)} {ps : List (Int × Int)} (h : Both C H p d m dm b a kvs kvm ps) (s : Same H H') : Both C H' p d m dm b a kvs kvm ps where
  sl := ⟨h.sl.ob.elim fun dx q => ⟨dx, s _ _ q⟩, s _ _ h.sl.dc⟩
  mo := s _ _ h.mo
  md := s _ _ h.md
  k1 := kv_keep (same_keep s) h.k1
  k2 := kv_keep (same_keep s) h.k2
  le := h.le
  nd := h.nd
  b0 := h.b0
  ba := h.ba
  al := h.al
  cov := h.cov
  ne := h.ne
def vD (k : Int) : PyData := .tuple [.str "v", .int k]
theorem vat_dp {K : PySem.W.Frag} {H : Hp} {v : V} {k : Int} (h : VAt H v k) : Dp K H v (vD k) := by
  obtain ⟨t, rfl, e⟩ := h
  exact .tup (sqt e) (.cons (.str _) (.cons (.int _) .nil))
theorem vD_flat (k : Int) : Flat 1 (vD k) := flat_tup fun d hd => by
  simp only [List.mem_cons, List.not_mem_nil, or_false] at hd
  rcases hd with rfl | rfl
  · exact flat_str 0 _
  · exact flat_int 0 _
def sp_alike (C : Addr) : Sp := fun vs H Q _ => ∃ (p d m dm : Addr) (b a : Int) (kvs kvm : List (Key × V)) (ps : List (Int × Int)), vs = [.ref p, .ref m] ∧ Both C H p d m dm b a kvs kvm ps ∧ ∀ H', Same H H' → Q (.bl true) H'
section
variable {P : Program} {w : World} {K : PySem.W.Frag} {mg : Str → Option Value} {base : Heap}
theorem ok__law_is_alike (T : TX K mg) : FnOk P w K mg base CX0 2 T.a__law_is_alike T.d__law_is_alike ["slots", "model"] (sp_alike T.a_Slots) := by
  refine T.F__law_is_alike.ok sc__law_is_alike (fun vs H Q E h => ?_) (fun cdv A outer s H vs Q E hr h => ?_)
  · obtain ⟨p, d, m, dm, b, a, kvs, kvm, ps, rfl, _⟩ := h
    rfl
  · obtain ⟨p, d, m, dm, b, a, kvs, kvm, ps, rfl, hB, q⟩ := h
    refine ⟨_, (pss_cons (ps_for PassesOwn.never rfl (pi_list (pe_lst (pa_cons (pe_fld (pv 0) rfl) (pa_cons (pe_fld (pv 0) rfl) pa_nil)))) (pg_name (i := 2) sc__law_is_alike.nd rfl (Or.inl rfl))
        (pss_one (ps_if (PW.pt (pw_or (pt_not (pt_val (pe_callB call_isi (by rfl) T.n_isinstance (by decide +kernel) (pa_cons (pv 2) (pa_cons (pe_bltn (v := .ty "int") (u := .type "int") (by rfl) T.n_int (by decide +kernel) rfl) pa_nil))))) (pw_or1 (pt_val (pe_callB call_isi (by rfl) T.n_isinstance (by decide +kernel) (pa_cons (pv 2) (pa_cons (pe_bltn (v := .ty "bool") (u := .type "bool") (by rfl) T.n_bool (by decide +kernel) rfl) pa_nil))))))) (pss_one (ps_ret pe_bl)) pss_nil)))
      (pss_cons (ps_if (PW.pt (pw_or (pt_cmpR op_ne (pe_fld (pv 0) rfl) (pe_ix ix_list (pv 1) pe_int (fun _ _ => rfl)) (nomark _)) (pw_or1 (pt_cmpR op_ne (pe_fld (pv 0) rfl) (pe_ix ix_list (pv 1) pe_int (fun _ _ => rfl)) (nomark _))))) (pss_one (ps_ret pe_bl)) pss_nil)
      (pss_cons (ps_set (i := 3) sc__law_is_alike.nd rfl (Or.inl rfl) (pe_and (pe_cmp (pc_dnotin (hu_of hr) (pe_ix ix_list (pv 1) pe_int (fun _ _ => rfl)) (pe_ix ix_list (pv 1) pe_int (fun _ _ => rfl))) rfl) (pe_one (pe_cmpR op_gt (pe_callB call_len_seq (by rfl) T.n_len PySem.boot_len (pa_cons (pe_lock (pe_lc (own := [("one", 7)]) (g := gName 7)  (by rfl) sc__law_is_alike.nd (pi_keys (pe_ix ix_list (pv 1) pe_int (fun _ _ => rfl))) (blkOk_by (own := [("one", 7)]) (N := ["slots", "model", "field", "behind", "told", "slot", "due", "one"]) (sc := defScope s__law_is_alike) (by decide +kernel)) (fun _ _ _ _ _ => pg_name (i := 7) sc__law_is_alike.nd rfl (Or.inl rfl)) (fun _ _ _ _ _ => pts_one (pt_cmpR op_gt (pv 7) (pe_ix (ixK_list (K := K) rfl) (pv 1) pe_int (fun _ _ => rfl)) (nomark _))) (fun _ _ _ _ _ => (pv 7)))) pa_nil)) pe_int (nomark _)))))
      (pss_cons (ps_set (i := 4) sc__law_is_alike.nd rfl (Or.inl rfl) (pe_meth0 (pv 0) T.K_Slots T.m_Slots_is_behind (ok_Slots_is_behind T) (hr.mono (by decide)) T.b_Slots_is_behind .nil pass0))
      (pss_cons (ps_if (PW.pt (pw_or (pt_not (pt_val (pe_callB call_isi (by rfl) T.n_isinstance (by decide +kernel) (pa_cons (pv 4) (pa_cons (pe_bltn (v := .ty "bool") (u := .type "bool") (by rfl) T.n_bool (by decide +kernel) rfl) pa_nil))))) (pw_or1 (pt_cmpR op_ne (pv 4) (pv 3) (nomark _))))) (pss_one (ps_ret pe_bl)) pss_nil)
      (pss_cons (ps_for PassesOwn.never rfl (pi_range2 (by rfl) T.n_range (pa_cons (pe_callB (call_max2 rfl) (by rfl) T.n_max (by decide +kernel) (pa_cons pe_int (pa_cons (pe_op op_sub (pe_ix ix_list (pv 1) pe_int (fun _ _ => rfl)) pe_int) pa_nil))) (pa_cons (pe_op op_add (pe_ix ix_list (pv 1) pe_int (fun _ _ => rfl)) pe_int) pa_nil))) (pg_name (i := 5) sc__law_is_alike.nd rfl (Or.inl rfl))
        (pss_cons (ps_set (i := 6) sc__law_is_alike.nd rfl (Or.inl rfl) pe_non)
        (pss_cons (ps_if (PW.pt (pw_and (pt_cmpR op_le (pe_ix ix_list (pv 1) pe_int (fun _ _ => rfl)) (pv 5) (nomark _)) (pw_and1 (pt_cmpR op_lt (pv 5) (pe_ix ix_list (pv 1) pe_int (fun _ _ => rfl)) (nomark _))))) (pss_one (ps_set (i := 6) sc__law_is_alike.nd rfl (Or.inl rfl) (pe_dget (hu_of hr) (pe_ix ix_list (pv 1) pe_int (fun _ _ => rfl)) (pv 5) (fun _ _ => rfl)))) pss_nil)
        (pss_one (ps_if (pt_cmpR (op_neD hr.units) (pe_meth (pv 0) T.K_Slots T.m_Slots_value_at (ok_Slots_value_at T) (hr.mono (by decide)) T.b_Slots_value_at .nil pass0 (pa_cons (pv 5) pa_nil)) (pv 6) (nomark _)) (pss_one (ps_ret pe_bl)) pss_nil)))))
      (pss_one (ps_ret pe_bl)))))))), ?_⟩
    obtain ⟨⟨dx, hp⟩, hd⟩ := hB.sl
    refine ⟨_, rfl, p, _, dx, _, _, rfl, hp, T.K_Slots, T.na_Slots_base, fl_Slots_base, _, rfl, p, _, dx, _, _, rfl, hp, T.K_Slots, T.na_Slots_applied, fl_Slots_applied, (by show 2 ≤ sizeLine; decide), fun o ho => ?_⟩
    refine ⟨o, rfl, ⟨_, sql upd_same⟩, for_list (K := K) (a := o) (xs := [V.int b, V.int a]) (fun i σ G => G = upd H o (.lst [V.int b, V.int a]) ∧ ∃ x2, σ = [some (.ref p), some (.ref m), x2, none, none, none, none, none])
      ⟨rfl, none, rfl⟩ (fun i σ G _ h => by rw [h.1]; exact sql upd_same) ?_ ?_⟩
    · rintro i v σ G hv ⟨rfl, x2, rfl⟩
      have hvi : ∃ z : Int, v = .int z := by
        rcases i with _ | _ | i
        · exact ⟨b, (Option.some.inj hv).symm⟩
        · exact ⟨a, (Option.some.inj hv).symm⟩
        · simp at hv
      obtain ⟨z, rfl⟩ := hvi
      refine ⟨.int z, rfl, .int z, .ty "int", .type "int", .type "int", true, rfl, .ty _, .base (.int z), kit_ty (by decide +kernel), true, rfl, ?_⟩
      refine ⟨.int z, rfl, .int z, .ty "bool", .type "int", .type "bool", false, rfl, .ty _, .base (.int z), kit_ty (by decide +kernel), false, rfl, ?_⟩
      exact ⟨rfl, _, rfl⟩
    · rintro σ G ⟨rfl, x2, rfl⟩
      have s1 : Same H (upd H o (.lst [V.int b, V.int a])) := same_upd ho
      generalize upd H o (.lst [V.int b, V.int a]) = G at s1
      have hG := hB.same s1
      obtain ⟨⟨dx, hp⟩, hd⟩ := hG.sl
      refine ⟨_, rfl, p, _, dx, _, _, rfl, hp, T.K_Slots, T.na_Slots_base, fl_Slots_base, _, rfl, m, _, 0, _, rfl, rfl, sql hG.mo, rfl, rfl, _, rfl, ifnt rfl ?_⟩
      refine ⟨_, rfl, p, _, dx, _, _, rfl, hp, T.K_Slots, T.na_Slots_applied, fl_Slots_applied, _, rfl, m, _, 1, _, rfl, rfl, sql hG.mo, rfl, rfl, _, rfl, ifnt rfl ?_⟩
      refine andV_use (x := !hasK kvm a) (y := later kvm a) (ei_dnotin (k := Sum.inl a) (ei_ixL (ei_var rfl) ei_c (sql hG.mo) rfl) (ei_ixL (ei_var rfl) ei_c (sql hG.mo) rfl) hG.md) (fun _ Q' hq => ?_) (fun G2 s2 => ?_)
      · have nmd : m ≠ dm := ne_of hG.mo hG.md (by intro z; cases z)
        refine lc_keys dm kvm (fun k => decide (keyI k > a)) (fun k => kV k) hG.md (by rw [kv_len hG.k2]; have := hG.le; omega) (fun od => ei_ixL (ei_var rfl) ei_c (sql (by rw [upd_ne nmd]; exact hG.mo)) rfl) (fun _ => rfl) (fun od i k v G Q' hk s q => ?_) (fun od i k v G Q' hk s q => ⟨_, rfl, q⟩) (fun D H' hD hs hl => ?_)
        · obtain ⟨x, rfl⟩ := kv_at (kv_ints hG.k2) hk
          exact ⟨_, rfl, _, rfl, m, _, 1, _, rfl, rfl, sql (s _ _ (by rw [upd_ne nmd]; exact hG.mo)), rfl, _, _, rfl, rfl, _, rfl, q⟩
        · refine ⟨D, _, rfl, .inl (sql hl), _, _, rfl, rfl, ?_⟩
          have := hq H' hs
          rw [← kv_flt hG.k2] at this
          simp only [Int.natCast_pos]
          exact this
      · have eb : (!hasK kvm a && later kvm a) = (!hasK kvs a && later kvs a) := by rw [kv_has hG.k1, kv_has hG.k2, kv_later hG.k1, kv_later hG.k2]
        rw [eb]
        have hG2 := hG.same s2
        obtain ⟨⟨dx, hp⟩, hd⟩ := hG2.sl
        refine ⟨_, rfl, p, dx, _, rfl, hp, rfl, p, d, b, a, kvs, rfl, ⟨⟨dx, hp⟩, hd⟩, by rw [kv_len hG2.k1]; have := hG2.le; omega, kv_ints hG2.k1, fun G3 s3 => ?_⟩
        have hG3 := hG2.same s3
        have s13 : Same H G3 := s1.trans (s2.trans s3)
        generalize hz : (!hasK kvs a && later kvs a) = z
        have hz' : (!hasK kvs a && kvs.any fun kv => match kv.1 with | .inl s => decide (a < s) | _ => false) = z := hz
        rw [hz']
        refine ⟨.bl z, rfl, .bl z, .ty "bool", .type "bool", .type "bool", true, rfl, .ty _, .base (.bl z), kit_ty (by decide +kernel), true, rfl, ?_⟩
        refine ⟨_, rfl, _, rfl, rfl, _, rfl, ifnt rfl ?_⟩
        have hb0 := hG3.b0
        have hba := hG3.ba
        have hal := hG3.al
        refine ⟨_, rfl, m, _, 0, _, rfl, rfl, sql hG3.mo, rfl, _, _, rfl, rfl, 0, b - 3, rfl, _, rfl, m, _, 1, _, rfl, rfl, sql hG3.mo, rfl, _, _, rfl, rfl, _, _, rfl, ⟨by split <;> omega, by split <;> omega, by omega, by omega⟩, ?_⟩
        refine for_range (fun i σ H' => Same H H' ∧ ∃ x2 x5 x6, σ = [some (.ref p), some (.ref m), x2, some (.bl z), some (.bl z), x5, x6, none]) ⟨s13, _, _, _, rfl⟩ ?_ ?_
        · rintro i σ G4 _ ⟨s4, x2, x5, x6, rfl⟩
          generalize (if b - 3 > 0 then b - 3 else 0) + (i : Int) = sl
          have hG4 := hB.same s4
          obtain ⟨⟨dx, hp⟩, hd⟩ := hG4.sl
          refine ⟨_, rfl, m, _, 0, _, rfl, rfl, sql hG4.mo, rfl, _, rfl, _, _, rfl, rfl, _, rfl, ifd (fun h1 => ?_) (fun h1 => ?_)⟩
          · refine ⟨_, rfl, _, rfl, m, _, 1, _, rfl, rfl, sql hG4.mo, rfl, _, _, rfl, rfl, _, rfl, ifd (fun h2 => ?_) (fun h2 => ?_)⟩
            · have hcov := hG4.cov sl h1 h2
              rcases kv_val (s := sl) hG4.k2 with ⟨e1, _⟩ | ⟨j, v, e1, e2, e3⟩
              · rw [e1] at hcov
                cases hcov
              rcases kv_val (s := sl) hG4.k1 with ⟨g1, _⟩ | ⟨j', v', g1, g2, g3⟩
              · rw [g1] at hcov
                cases hcov
              rw [e1] at g1
              obtain rfl := Option.some.inj g1
              refine ⟨_, rfl, m, _, 2, _, rfl, rfl, sql hG4.mo, rfl, _, rfl, dm, v, rfl, by rw [← e2]; exact DGet.k (k := Sum.inl sl) hG4.md, ?_⟩
              have sh := (vD_flat j).sh (by decide)
              refine ⟨_, rfl, p, dx, _, rfl, hp, rfl, _, rfl, p, d, b, a, sl, kvs, rfl, ⟨⟨dx, hp⟩, hd⟩, fun h => by omega, fun _ _ => ⟨v', g2, _, rfl, _, _, vat_dp g3, vat_dp e3, sh, sh, _, rfl, ?_⟩⟩
              rw [eqv_self sh]
              exact ⟨s4, _, _, _, rfl⟩
            · refine ⟨_, rfl, p, dx, _, rfl, hp, rfl, _, rfl, p, d, b, a, sl, kvs, rfl, ⟨⟨dx, hp⟩, hd⟩, fun h => ⟨_, rfl, _, _, .non, .non, rfl, rfl, _, rfl, ?_⟩, fun _ h => absurd h h2⟩
              exact ⟨s4, _, _, _, rfl⟩
          · refine ⟨_, rfl, p, dx, _, rfl, hp, rfl, _, rfl, p, d, b, a, sl, kvs, rfl, ⟨⟨dx, hp⟩, hd⟩, fun h => ⟨_, rfl, _, _, .non, .non, rfl, rfl, _, rfl, ?_⟩, fun h _ => absurd h h1⟩
            exact ⟨s4, _, _, _, rfl⟩
        · rintro σ G4 ⟨s4, x2, x5, x6, rfl⟩
          exact q G4 s4
end
theorem no_key : ∀ {kvs : List (Key × V)} {s : Int}, hasK kvs s = false → ∀ kv ∈ kvs, kv.1 ≠ Sum.inl s
  | [], _, _ => fun kv h => by cases h
  | (k, v) :: r, s, h => by
    by_cases e : k = Sum.inl s
    · have : hasK ((k, v) :: r) s = true := by
        unfold hasK
        rw [valV_pos e]
        rfl
      rw [this] at h
      cases h
    · have h' : hasK r s = false := by
        unfold hasK at h ⊢
        rw [valV_neg e] at h
        exact h
      intro kv hm
      rcases List.mem_cons.mp hm with rfl | hm
      · exact e
      · exact no_key h' kv hm
theorem keep_of {H H' : Hp} {p : Addr} (hp : ∀ xs, H p ≠ some (.tup xs)) (h : ∀ x o, H x = some o → x ≠ p → H' x = some o) : Keep H H' := fun t xs e => h t _ e fun z => hp xs (by rw [← z]; exact e)
theorem Keep.trans {G H J : Hp} (h : Keep G H) (k : Keep H J) : Keep G J := fun t xs e => k t xs (h t xs e)
theorem taken_len {G H : Hp} {kvs kvm : List (Key × V)} {a : Int} {xs ys : List V} (hk : ∀ s, hasK kvs s = hasK kvm s) (h1 : Taken G kvs a xs) (h2 : Taken H kvm a ys) (e1 : hasK kvs (a + xs.length) = false) (e2 : hasK kvm (a + ys.length) = false) : xs.length = ys.length := by
  rcases Nat.lt_trichotomy xs.length ys.length with h | h | h
  · obtain ⟨t, v, _, _, hv⟩ := h2 xs.length _ (List.getElem?_eq_getElem h)
    rw [hk] at e1
    unfold hasK at e1
    rw [hv] at e1
    cases e1
  · exact h
  · obtain ⟨t, v, _, _, hv⟩ := h1 ys.length _ (List.getElem?_eq_getElem h)
    rw [← hk] at e2
    unfold hasK at e2
    rw [hv] at e2
    cases e2
theorem taken_keep {H H' : Hp} {kvs : List (Key × V)} {a : Int} {xs : List V} (k : Keep H H') (h : Taken H kvs a xs) : Taken H' kvs a xs := fun j x hx => by
  obtain ⟨t, v, e, h1, h2⟩ := h j x hx
  exact ⟨t, v, e, k _ _ h1, h2⟩
theorem dpa_of {K : PySem.W.Frag} {H : Hp} : ∀ {xs : List V} {f : Nat → PyData}, (∀ j x, xs[j]? = some x → Dp K H x (f j)) → DpAll K H xs ((List.range xs.length).map f)
  | [], _, _ => .nil
  | x :: r, f, h => by
    rw [List.length_cons, List.range_succ_eq_map, List.map_cons, List.map_map]
    exact .cons (h 0 x rfl) (dpa_of (f := f ∘ Nat.succ) fun j y hy => h (j + 1) y hy)
def takenD (ps : List (Int × Int)) (a : Int) (n : Nat) : PyData := .list ((List.range n).map fun (j : Nat) => .tuple [.int (a + j), vD ((atP ps (a + j)).getD 0)])
theorem taken_dp {K : PySem.W.Frag} {H : Hp} {q : Addr} {kvs : List (Key × V)} {ps : List (Int × Int)} {a : Int} {xs : List V} (hq : H q = some (.lst xs)) (hk : KV H kvs ps) (h : Taken H kvs a xs) : Dp K H (.ref q) (takenD ps a xs.length) := by
  refine .lst (sql hq) (dpa_of fun j x hx => ?_)
  obtain ⟨t, v, rfl, h1, h2⟩ := h j x hx
  rcases kv_val (s := a + j) hk with ⟨_, e⟩ | ⟨k, v', e1, e2, e3⟩
  · rw [e] at h2
    cases h2
  · rw [e2] at h2
    obtain rfl := Option.some.inj h2
    rw [e1]
    exact .tup (sqt h1) (.cons (.int _) (.cons (vat_dp e3) .nil))
theorem takenD_flat (ps : List (Int × Int)) (a : Int) (n : Nat) : Flat 3 (takenD ps a n) := flat_list fun d hd => by
  obtain ⟨j, _, rfl⟩ := List.mem_map.mp hd
  refine flat_tup fun e he => ?_
  simp only [List.mem_cons, List.not_mem_nil, or_false] at he
  rcases he with rfl | rfl
  · exact (flat_int 0 _).mono (by decide)
  · exact vD_flat _
theorem atP_filter {ps : List (Int × Int)} {n s : Int} (h : n ≤ s) : (atP (ps.filter fun p => decide (n ≤ p.1)) s).isSome = (atP ps s).isSome := by
  rw [atP_in, atP_in, List.any_filter]
  congr 1
  funext p
  by_cases e : p.1 = s
  · have : n ≤ p.1 := by omega
    simp [e, h]
  · simp [e]
theorem atP_app {ps : List (Int × Int)} {s x k : Int} (h : (atP ps s).isSome = true) : (atP (ps ++ [(x, k)]) s).isSome = true := by
  rw [atP_in] at h ⊢
  rw [List.any_append, h]
  rfl
theorem lift {H : Hp} {x y : Addr} {o u : HO} (h : H x = some o) (n : x ≠ y) : upd H y u x = some o := by rw [upd_ne n]; exact h
def sp_law (K : PySem.W.Frag) : Sp := fun vs H Q _ => ∃ (a : Addr) (ns : List Int), vs = [.ref a] ∧ SqL K H a (ns.map V.int) ∧ ns.length ≤ 63 ∧ ∀ H', Q (.bl true) H'
/-- where the program and the model stand after i deeds -/
def Deeds (C : Addr) (ds : List Int) (A0 o p m : Addr) (i : Nat) (σ : L2.St) (G : Hp) : Prop := ∃ (d dm : Addr) (b a : Int) (kvs kvm : List (Key × V)) (ps : List (Int × Int)) (x4 x5 x6 x7 x8 x9 x10 x11 x12 : Option V),
  σ = [some (.ref A0), some (.ref o), some (.ref p), some (.ref m), x4, x5, x6, x7, x8, x9, x10, x11, x12] ∧ Both C G p d m dm b a kvs kvm ps ∧ ps.length ≤ i ∧ a ≤ 200 * i ∧ G o = some (.lst (ds.map V.int))
section
variable {P : Program} {w : World} {K : PySem.W.Frag} {mg : Str → Option Value} {base : Heap}
theorem ok_law (T : TX K mg) : FnOk P w K mg base CX0 3 T.a_law T.d_law ["script"] (sp_law K) := by
  refine T.F_law.ok sc_law (fun vs H Q E h => ?_) (fun cdv A outer s H vs Q E hr h => ?_)
  · obtain ⟨a, ns, rfl, _⟩ := h
    rfl
  · obtain ⟨A0, ns, rfl, hS, hns, q⟩ := h
    refine ⟨_, (pss_cons (ps_set (i := 1) sc_law.nd rfl (Or.inl rfl) (pe_call (ok__law_draws T) (hr.mono (by decide)) (by rfl) T.g__law_draws T.F__law_draws.kp T.b__law_draws .nil pass0 (pa_cons (pv 0) pa_nil)))
      (pss_cons (ps_set (i := 2) sc_law.nd rfl (Or.inl rfl) (pe_make0 T.M_Slots (ok_Slots___init__ T) (hr.mono (by decide)) (by rfl) T.g_Slots T.b_Slots___init__ .nil pass0))
      (pss_cons (ps_set (i := 3) sc_law.nd rfl (Or.inl rfl) (pe_lst (pa_cons pe_int (pa_cons pe_int (pa_cons pe_dnewK pa_nil)))))
      (pss_cons (ps_for PassesOwn.never rfl (pi_range1 (by rfl) T.n_range (pa_cons (pe_callB (call_min2 rfl) (by rfl) T.n_min (by decide +kernel) (pa_cons pe_int (pa_cons (pe_op op_fdiv (pe_callB call_len_seq (by rfl) T.n_len PySem.boot_len (pa_cons (pv 1) pa_nil)) pe_int) pa_nil))) pa_nil)) (pg_name (i := 4) sc_law.nd rfl (Or.inl rfl))
        (pss_cons (ps_set (i := 5) sc_law.nd rfl (Or.inl rfl) (pe_ix ix_list (pv 1) (pe_op op_mul pe_int (pv 4)) (fun _ _ => rfl)))
        (pss_cons (ps_set (i := 6) sc_law.nd rfl (Or.inl rfl) (pe_ix ix_list (pv 1) (pe_op op_add (pe_op op_mul pe_int (pv 4)) pe_int) (fun _ _ => rfl)))
        (C8.pss_cut (ps_if (pt_cmpR op_lt (pe_op op_mod (pv 5) pe_int) pe_int (nomark _)) (pss_cons (ps_set (i := 7) sc_law.nd rfl (Or.inl rfl) (pe_callB (call_max2 rfl) (by rfl) T.n_max (by decide +kernel) (pa_cons pe_int (pa_cons (pe_op op_sub (pe_op op_add (pe_ix ix_list (pv 3) pe_int (fun _ _ => rfl)) (pe_op op_mod (pv 6) pe_int)) pe_int) pa_nil))))
          (C8.pss_cut (ps_if (pt_cmpR op_eq (pe_op op_mod (pv 5) pe_int) pe_int (nomark _)) (pss_one (ps_set (i := 7) sc_law.nd rfl (Or.inl rfl) (pe_ix ix_list (pv 3) pe_int (fun _ _ => rfl)))) pss_nil)
          (pss_cons (ps_set (i := 8) sc_law.nd rfl (Or.inl rfl) (pe_and (pe_cmpR op_ge (pv 7) (pe_ix ix_list (pv 3) pe_int (fun _ _ => rfl)) (nomark _)) (pe_one (pe_cmp (pc_dnotin (hu_of hr) (pv 7) (pe_ix ix_list (pv 3) pe_int (fun _ _ => rfl))) rfl))))
          (pss_cons (ps_if (pt_val (pv 8)) (pss_one (ps_dput (hu_of hr) (pe_ix ix_list (pv 3) pe_int (fun _ _ => rfl)) (pv 7) (pe_tup (pa_cons pe_str (pa_cons (pv 4) pa_nil))) rfl)) pss_nil)
          (pss_cons (ps_set (i := 9) sc_law.nd rfl (Or.inl rfl) (pe_meth (pv 2) T.K_Slots T.m_Slots_learn (ok_Slots_learn T) (hr.mono (by decide)) T.b_Slots_learn .nil pass0 (pa_cons (pv 7) (pa_cons (pe_tup (pa_cons pe_str (pa_cons (pv 4) pa_nil))) pa_nil))))
          (pss_one (ps_if (PW.pt (pw_or (pt_not (pt_val (pe_callB call_isi (by rfl) T.n_isinstance (by decide +kernel) (pa_cons (pv 9) (pa_cons (pe_bltn (v := .ty "bool") (u := .type "bool") (by rfl) T.n_bool (by decide +kernel) rfl) pa_nil))))) (pw_or1 (pt_cmpR op_ne (pv 9) (pv 8) (nomark _))))) (pss_one (ps_ret pe_bl)) pss_nil))))))) (pss_one (ps_if (pt_cmpR op_lt (pe_op op_mod (pv 5) pe_int) pe_int (nomark _)) (pss_cons (ps_set (i := 10) sc_law.nd rfl (Or.inl rfl) (pe_call (ok__law_taken T) (hr.mono (by decide)) (by rfl) T.g__law_taken T.F__law_taken.kp T.b__law_taken .nil pass0 (pa_cons (pv 3) pa_nil)))
            (pss_cons (ps_set (i := 11) sc_law.nd rfl (Or.inl rfl) (pe_meth0 (pv 2) T.K_Slots T.m_Slots_take (ok_Slots_take T) (hr.mono (by decide)) T.b_Slots_take .nil pass0))
            (pss_one (ps_if (PW.pt (pw_or (pt_not (pt_val (pe_callB call_isi (by rfl) T.n_isinstance (by decide +kernel) (pa_cons (pv 11) (pa_cons (pe_bltn (v := .ty "list") (u := .type "list") (by rfl) T.n_list (by decide +kernel) rfl) pa_nil))))) (pw_or1 (pt_cmpR (op_neD hr.units) (pv 11) (pv 10) (nomark _))))) (pss_one (ps_ret pe_bl)) pss_nil)))) (pss_one (ps_if (pt_cmpR op_eq (pe_op op_mod (pv 5) pe_int) pe_int (nomark _)) (pss_cons (ps_set (i := 12) sc_law.nd rfl (Or.inl rfl) (pe_callB (call_max2 rfl) (by rfl) T.n_max (by decide +kernel) (pa_cons pe_int (pa_cons (pe_op op_sub (pe_op op_add (pe_ix ix_list (pv 3) pe_int (fun _ _ => rfl)) (pe_op op_mod (pv 6) pe_int)) pe_int) pa_nil))))
              (pss_cons (ps_if (PW.pt (pw_and (pt_cmpR op_gt (pv 12) (pe_ix ix_list (pv 3) pe_int (fun _ _ => rfl)) (nomark _)) (pw_and1 (pt_cmpR op_le (pv 12) (pe_ix ix_list (pv 3) pe_int (fun _ _ => rfl)) (nomark _))))) (pss_one (ps_expr (pe_call (ok__law_forget T) (hr.mono (by decide)) (by rfl) T.g__law_forget T.F__law_forget.kp T.b__law_forget .nil pass0 (pa_cons (pv 3) (pa_cons (pv 12) pa_nil))))) pss_nil)
              (pss_one (ps_expr (pe_meth (pv 2) T.K_Slots T.m_Slots_cut (ok_Slots_cut T) (hr.mono (by decide)) T.b_Slots_cut .nil pass0 (pa_cons (pv 12) pa_nil)))))) (pss_cons (ps_set (i := 12) sc_law.nd rfl (Or.inl rfl) (pe_callB (call_max2 rfl) (by rfl) T.n_max (by decide +kernel) (pa_cons pe_int (pa_cons (pe_op op_sub (pe_op op_add (pe_ix ix_list (pv 3) pe_int (fun _ _ => rfl)) (pe_op op_mod (pv 6) pe_int)) pe_int) pa_nil))))
              (pss_cons (ps_if (pt_cmpR op_gt (pv 12) (pe_ix ix_list (pv 3) pe_int (fun _ _ => rfl)) (nomark _)) (pss_cons (ps_expr (pe_call (ok__law_forget T) (hr.mono (by decide)) (by rfl) T.g__law_forget T.F__law_forget.kp T.b__law_forget .nil pass0 (pa_cons (pv 3) (pa_cons (pv 12) pa_nil))))
                (pss_one (ps_asg (pv 12) (pg_sub (pv 3) pe_int set_list)))) pss_nil)
              (pss_one (ps_expr (pe_meth (pv 2) T.K_Slots T.m_Slots_jump (ok_Slots_jump T) (hr.mono (by decide)) T.b_Slots_jump .nil pass0 (pa_cons (pv 12) pa_nil)))))))))))
        (pss_one (ps_if (pt_not (pt_val (pe_call (ok__law_is_alike T) (hr.mono (by decide)) (by rfl) T.g__law_is_alike T.F__law_is_alike.kp T.b__law_is_alike .nil pass0 (pa_cons (pv 2) (pa_cons (pv 3) pa_nil))))) (pss_one (ps_ret pe_bl)) pss_nil))))))
      (pss_one (ps_ret (pe_call (ok__law_is_alike T) (hr.mono (by decide)) (by rfl) T.g__law_is_alike T.F__law_is_alike.kp T.b__law_is_alike .nil pass0 (pa_cons (pv 2) (pa_cons (pv 3) pa_nil))))))))), ?_⟩
    refine ⟨_, rfl, A0, ns, rfl, hS, fun o H1 ds ho s1 eo hdr hlen => ?_⟩
    refine fun p dx hp hdx npdx => ⟨p, dx, rfl, upd_same, fun d H2 hd hS2 hk2 => ⟨rfl, ?_⟩⟩
    refine fun dm hdm => ⟨(by show 3 ≤ sizeLine; decide), fun m hm => ?_⟩
    have ndm : dm ≠ m := fun z => by rw [z, upd_same] at hm; cases hm
    rw [upd_ne ndm.symm] at hm
    have hop : H1 o = some (.lst (ds.map V.int)) := eo
    have npo : p ≠ o := fun z => by rw [z, eo] at hp; cases hp
    have ndxo : dx ≠ o := fun z => by rw [z, eo] at hdx; cases hdx
    have eo2 : H2 o = some (.lst (ds.map V.int)) := hk2 _ _ (by rw [upd_ne npo.symm, upd_ne ndxo.symm]; exact eo) npo.symm
    obtain ⟨⟨dx', hp2⟩, hd2⟩ := hS2
    have e1 : (upd (upd H2 dm (.dK [])) m (.lst [.int 0, .int 0, .ref dm])) p = some (.ins T.a_Slots dx' (fl_Slots (.int 0) (.int 0) (.ref d))) := same_put (same_upd hdm) hm _ _ hp2
    have e2 : (upd (upd H2 dm (.dK [])) m (.lst [.int 0, .int 0, .ref dm])) d = some (.dK []) := same_put (same_upd hdm) hm _ _ hd2
    have e3 : (upd (upd H2 dm (.dK [])) m (.lst [.int 0, .int 0, .ref dm])) o = some (.lst (ds.map V.int)) := same_put (same_upd hdm) hm _ _ eo2
    have e4 : (upd (upd H2 dm (.dK [])) m (.lst [.int 0, .int 0, .ref dm])) dm = some (.dK []) := by rw [upd_ne ndm, upd_same]
    have nmo : m ≠ o := (ne_of_none eo2 hm).symm
    have ndd : d ≠ dm := ne_of_none hd2 hdm
    generalize hG0 : upd (upd H2 dm (.dK [])) m (.lst [.int 0, .int 0, .ref dm]) = G0 at e1 e2 e3 e4
    have e5 : G0 m = some (.lst [.int 0, .int 0, .ref dm]) := by rw [← hG0, upd_same]
    have hlz : ds.length ≤ 1260 := hlen
    refine ⟨_, rfl, o, _, rfl, .inl (sql e3), _, _, rfl, rfl, ⟨by decide, by decide⟩, 80, _, rfl, _, rfl, by rw [List.length_map]; split <;> omega, by rw [List.length_map]; split <;> omega, ?_⟩
    refine for_range (lo := 0) (n := _) (Deeds T.a_Slots ds A0 o p m) ⟨d, dm, 0, 0, [], [], [], none, none, none, none, none, none, none, none, none, rfl, ⟨⟨⟨dx', e1⟩, e2⟩, e5, e4, trivial, trivial, Nat.zero_le _, List.nodup_nil, by decide, by decide, by decide, fun s h1 h2 => by omega, ndd⟩, Nat.le_refl _, by decide, e3⟩ ?_ ?_
    · rintro i σ G hi ⟨d, dm, b, a, kvs, kvm, ps, x4, x5, x6, x7, x8, x9, x10, x11, x12, rfl, hB, hpl, hal, ho'⟩
      rw [List.length_map] at hi
      have hi80 : i < 80 := by
        have : (if ((ds.length : Int) / 2) < 80 then ((ds.length : Int) / 2) else 80) ≤ 80 := by split <;> omega
        omega
      have hil : 2 * i + 1 < ds.length := by
        have : (if ((ds.length : Int) / 2) < 80 then ((ds.length : Int) / 2) else 80) ≤ (ds.length : Int) / 2 := by split <;> omega
        omega
      have g0 : atI (ds.map V.int) (2 * (0 + (i : Int))) = some (.int ds[2 * i]) := by
        have : 2 * (0 + (i : Int)) = ((2 * i : Nat) : Int) := by omega
        rw [this]
        exact at_map (List.getElem?_eq_getElem (by omega))
      have g1 : atI (ds.map V.int) (2 * (0 + (i : Int)) + 1) = some (.int ds[2 * i + 1]) := by
        have : 2 * (0 + (i : Int)) + 1 = ((2 * i + 1 : Nat) : Int) := by omega
        rw [this]
        exact at_map (List.getElem?_eq_getElem hil)
      generalize ds[2 * i] = one at g0
      generalize ds[2 * i + 1] = other at g1
      refine ⟨_, rfl, _, rfl, _, _, rfl, rfl, .inl ⟨by decide, by decide⟩, o, _, _, _, rfl, rfl, sql ho', g0, ?_⟩
      refine ⟨_, rfl, _, rfl, _, _, rfl, rfl, .inl ⟨by decide, by decide⟩, _, _, rfl, rfl, o, _, _, _, rfl, rfl, sql ho', g1, ?_⟩
      refine ⟨Deeds T.a_Slots ds A0 o p m (i + 1), ?_, ?_⟩
      · have hb0 := hB.b0
        have hba := hB.ba
        have hal' := hB.al
        have kl1 := kv_len hB.k1
        have kl2 := kv_len hB.k2
        have hple := hB.le
        obtain ⟨⟨dx, hp⟩, hd⟩ := hB.sl
        have npd : p ≠ d := ne_of hp hd (by intro z; cases z)
        have npm : p ≠ m := ne_of hp hB.mo (by intro z; cases z)
        have npdm : p ≠ dm := ne_of hp hB.md (by intro z; cases z)
        have nmd : m ≠ d := ne_of hB.mo hd (by intro z; cases z)
        have nmdm : m ≠ dm := ne_of hB.mo hB.md (by intro z; cases z)
        have npo' : p ≠ o := ne_of hp ho' (by intro z; cases z)
        have ndo : d ≠ o := ne_of hd ho' (by intro z; cases z)
        have ndmo : dm ≠ o := ne_of hB.md ho' (by intro z; cases z)
        have hhas : ∀ s, hasK kvs s = hasK kvm s := fun s => by rw [kv_has hB.k1, kv_has hB.k2]
        refine ⟨_, rfl, _, _, rfl, rfl, (by show (0 : Int) < _; decide), _, _, rfl, rfl, _, rfl, ifd (fun c1 => ?_) (fun c1 => ?_)⟩
        · -- learn
          refine ⟨_, rfl, m, _, 1, _, rfl, rfl, sql hB.mo, rfl, _, rfl, _, _, rfl, rfl, (by show (0 : Int) < _; decide), _, _, rfl, rfl, _, _, rfl, rfl, 0, _, rfl, ?_⟩
          refine ⟨fun σ' H' => G = H' ∧ ∃ sl : Int, σ' = [some (.ref A0), some (.ref o), some (.ref p), some (.ref m), some (.int (0 + (i : Int))), some (.int one), some (.int other), some (.int sl), x8, x9, x10, x11, x12], ?_, ?_⟩
          · refine ⟨_, rfl, _, _, rfl, rfl, (by show (0 : Int) < _; decide), rfl, _, rfl, ifd (fun _ => ?_) (fun _ => ?_)⟩
            · exact ⟨_, rfl, m, _, 1, _, rfl, rfl, sql hB.mo, rfl, rfl, _, rfl⟩
            · exact ⟨rfl, _, rfl⟩
          · rintro σ' _ ⟨rfl, sl, rfl⟩
            refine andV_use (x := decide (a ≤ sl)) (y := !hasK kvm sl) (ei_i0 (ei_var rfl) (ei_ixL (ei_var rfl) ei_c (sql hB.mo) rfl)) (fun _ Q' hq => ?_) (fun G2 s2 => ?_)
            · exact ⟨_, rfl, _, rfl, m, _, 2, _, rfl, rfl, sql hB.mo, rfl, dm, _, rfl, DGet.k (k := Sum.inl sl) hB.md, hq _ (Same.refl _)⟩
            · have hB2 := hB.same s2
              obtain ⟨⟨dx, hp⟩, hd⟩ := hB2.sl
              cases hnw : (decide (a ≤ sl) && !hasK kvm sl) with
              | true =>
                obtain ⟨ha, hk⟩ : a ≤ sl ∧ hasK kvm sl = false := by simpa using hnw
                refine ⟨_, rfl, _, rfl, (if_pos rfl).mpr ?_⟩
                refine ⟨_, rfl, (by show 2 ≤ sizeLine; decide), fun t ht => ?_⟩
                have npt : p ≠ t := ne_of_none hp ht
                have ndt : d ≠ t := ne_of_none hd ht
                have nmt : m ≠ t := ne_of_none hB2.mo ht
                have ndmt : dm ≠ t := ne_of_none hB2.md ht
                have ho2 := s2 _ _ ho'
                have notT : o ≠ t := ne_of_none ho2 ht
                refine ⟨_, rfl, m, _, 2, _, rfl, rfl, sql (lift hB2.mo nmt), rfl, _, rfl, dm, _, rfl, DPut.k (k := Sum.inl sl) (lift hB2.md ndmt) (szl (by omega)), ?_⟩
                rw [put_fresh (no_key hk)]
                refine ⟨_, rfl, p, dx, _, rfl, lift (lift hp npt) npdm, rfl, _, rfl, _, rfl, (by show 2 ≤ sizeLine; decide), fun t2 ht2 => ?_⟩
                have n2dm : t2 ≠ dm := fun z => by rw [z, upd_same] at ht2; cases ht2
                rw [upd_ne n2dm] at ht2
                have n2t : t2 ≠ t := fun z => by rw [z, upd_same] at ht2; cases ht2
                rw [upd_ne n2t] at ht2
                have np2 : p ≠ t2 := ne_of_none hp ht2
                have nd2 : d ≠ t2 := ne_of_none hd ht2
                have nm2 : m ≠ t2 := ne_of_none hB2.mo ht2
                have no2 : o ≠ t2 := ne_of_none ho2 ht2
                refine ⟨p, d, b, a, sl, .ref t2, kvs, rfl, ⟨⟨dx, lift (lift (lift hp npt) npdm) np2⟩, lift (lift (lift hd ndt) hB.ne) nd2⟩, by omega, fun h => ?_, fun _ _ => ?_⟩
                · rcases h with h | h
                  · omega
                  · rw [hhas, hk] at h
                    cases h
                · refine ⟨.bl true, rfl, .bl true, .ty "bool", .type "bool", .type "bool", true, rfl, .ty _, .base (.bl true), kit_ty (by decide +kernel), true, rfl, ?_⟩
                  refine ⟨_, rfl, _, rfl, rfl, _, rfl, ifnt rfl ?_⟩
                  have hk1 : hasK kvs sl = false := by rw [hhas]; exact hk
                  rw [put_fresh (no_key hk1)]
                  have keep : ∀ x u, G2 x = some u → x ≠ d → x ≠ dm → (upd (upd (upd (upd G2 t (.tup [.str "v", .int (0 + (i : Int))])) dm (.dK (kvm ++ [(Sum.inl sl, .ref t)]))) t2 (.tup [.str "v", .int (0 + (i : Int))])) d (.dK (kvs ++ [(Sum.inl sl, .ref t2)]))) x = some u := fun x u hx h1 h2 =>
                    lift (lift (lift (lift hx (ne_of_none hx ht)) h2) (ne_of_none hx ht2)) h1
                  have kk : Keep G2 _ := fun x xs hx => keep x _ hx (ne_of hx hd (by intro z; cases z)) (ne_of hx hB2.md (by intro z; cases z))
                  refine ⟨d, dm, b, a, kvs ++ [(Sum.inl sl, .ref t2)], kvm ++ [(Sum.inl sl, .ref t)], ps ++ [(sl, 0 + (i : Int))], _, _, _, _, _, _, _, _, _, rfl, ⟨⟨⟨dx, keep p _ hp npd npdm⟩, upd_same⟩, keep m _ hB2.mo nmd nmdm, ?_, kv_more ⟨t2, rfl, ?_⟩ (kv_keep kk hB2.k1), kv_more ⟨t, rfl, ?_⟩ (kv_keep kk hB2.k2), ?_, ?_, hb0, hba, hal', fun s h1 h2 => atP_app (hB.cov s h1 h2), hB.ne⟩, ?_, by omega, keep o _ ho2 ndo.symm ndmo.symm⟩
                  · rw [upd_ne hB.ne.symm, upd_ne n2dm.symm, upd_same]
                  · rw [upd_ne nd2.symm, upd_same]
                  · rw [upd_ne ndt.symm, upd_ne n2t.symm, upd_ne ndmt.symm, upd_same]
                  · rw [List.length_append]
                    show ps.length + 1 ≤ 100
                    omega
                  · rw [List.map_append]
                    refine List.nodup_append.mpr ⟨hB.nd, by simp, fun x hx y hy z => ?_⟩
                    simp only [List.map_cons, List.map_nil, List.mem_cons, List.not_mem_nil, or_false] at hy
                    obtain ⟨pp, hpp, hpe⟩ := List.mem_map.mp hx
                    have hat : (atP ps sl).isSome = true := by
                      rw [atP_in]
                      exact List.any_eq_true.mpr ⟨pp, hpp, by rw [hpe, z, hy]; simp⟩
                    rw [← kv_has hB.k2, hk] at hat
                    cases hat
                  · rw [List.length_append]
                    show ps.length + 1 ≤ i + 1
                    omega
              | false =>
                refine ⟨_, rfl, _, rfl, (if_neg Bool.false_ne_true).mpr ?_⟩
                have ho2 := s2 _ _ ho'
                refine ⟨_, rfl, p, dx, _, rfl, hp, rfl, _, rfl, _, rfl, (by show 2 ≤ sizeLine; decide), fun t2 ht2 => ?_⟩
                have s3 : Same G2 (upd G2 t2 (.tup [.str "v", .int (0 + (i : Int))])) := same_upd ht2
                refine ⟨p, d, b, a, sl, .ref t2, kvs, rfl, ⟨⟨dx, s3 _ _ hp⟩, s3 _ _ hd⟩, by omega, fun _ => ?_, fun h1 h2 => ?_⟩
                · refine ⟨.bl false, rfl, .bl false, .ty "bool", .type "bool", .type "bool", true, rfl, .ty _, .base (.bl false), kit_ty (by decide +kernel), true, rfl, ?_⟩
                  refine ⟨_, rfl, _, rfl, rfl, _, rfl, ifnt rfl ?_⟩
                  exact ⟨d, dm, b, a, kvs, kvm, ps, _, _, _, _, _, _, _, _, _, rfl, hB2.same s3, by omega, by omega, s3 _ _ ho2⟩
                · rw [hhas] at h2
                  have h3 : a ≤ sl := by omega
                  rw [h2, decide_eq_true h3] at hnw
                  cases hnw
        · refine ⟨_, rfl, _, _, rfl, rfl, (by show (0 : Int) < _; decide), _, _, rfl, rfl, _, rfl, ifd (fun c2 => ?_) (fun c2 => ?_)⟩
          · -- take
            refine ⟨_, rfl, m, dm, b, a, kvm, rfl, hB.mo, hB.md, by omega, fun q1 G1 xs1 hq1 hx1 ht1 hn1 hlen1 hm1 hk1 => ?_⟩
            refine ⟨_, rfl, p, dx, _, rfl, hk1 p _ hp npm, rfl, p, d, b, a, kvs, rfl, ⟨⟨dx, hk1 p _ hp npm⟩, hk1 d _ hd nmd.symm⟩, by omega, fun q2 G2 xs2 hq2 hx2 ht2 hn2 hS2 hk2 => ?_⟩
            refine ⟨_, rfl, _, .ty "list", .type "list", .type "list", true, rfl, .ty _, tyx_l (sql hx2), kit_ty (by decide +kernel), true, rfl, ?_⟩
            have hn : xs2.length = xs1.length := taken_len hhas ht2 ht1 hn2 hn1
            have kA : Keep G G1 := keep_of (fun xs => by rw [hB.mo]; intro z; cases z) hk1
            have kB : Keep G1 G2 := keep_of (fun xs => by rw [hk1 p _ hp npm]; intro z; cases z) hk2
            have kC := kA.trans kB
            have nqp : q1 ≠ p := ne_of hx1 (hk1 p _ hp npm) (by intro z; cases z)
            have d2 : Dp K G2 (.ref q2) (takenD ps a xs1.length) := hn ▸ taken_dp hx2 (kv_keep kC hB.k1) ht2
            have d1 : Dp K G2 (.ref q1) (takenD ps a xs1.length) := taken_dp (hk2 q1 _ hx1 nqp) (kv_keep kC hB.k2) (taken_keep kB ht1)
            have sh := (takenD_flat ps a xs1.length).sh (by decide)
            refine ⟨_, rfl, _, rfl, _, _, d2, d1, sh, sh, _, rfl, ?_⟩
            rw [eqv_self sh]
            rw [hn] at hS2
            have ndmp : dm ≠ p := npdm.symm
            refine ⟨d, dm, b, a + xs1.length, kvs, kvm, ps, _, _, _, _, _, _, _, _, _, rfl, ⟨hS2, hk2 m _ hm1 npm.symm, hk2 dm _ (hk1 dm _ hB.md nmdm.symm) ndmp, kv_keep kC hB.k1, kv_keep kC hB.k2, hple, hB.nd, hb0, by omega, by omega, fun s h1 h2 => ?_, hB.ne⟩, by omega, by omega, hk2 o _ (hk1 o _ ho' nmo.symm) npo'.symm⟩
            by_cases hs : s < a
            · exact hB.cov s h1 hs
            · obtain ⟨j, hj⟩ : ∃ j : Nat, s = a + j := ⟨(s - a).toNat, by omega⟩
              have hjl : j < xs1.length := by omega
              obtain ⟨t, v, _, _, hv⟩ := ht1 j _ (List.getElem?_eq_getElem hjl)
              rw [← kv_has hB.k2, hj]
              unfold hasK
              rw [hv]
              rfl
          · refine ⟨_, rfl, _, _, rfl, rfl, (by show (0 : Int) < _; decide), rfl, _, rfl, ifd (fun c3 => ?_) (fun c3 => ?_)⟩
            · -- cut
              refine ⟨_, rfl, m, _, 0, _, rfl, rfl, sql hB.mo, rfl, _, rfl, _, _, rfl, rfl, (by show (0 : Int) < _; decide), _, _, rfl, rfl, _, _, rfl, rfl, 0, _, rfl, ?_⟩
              dsimp only
              have hn0 : 0 ≤ (if b + other % 6 - 1 > 0 then b + other % 6 - 1 else 0) := by split <;> omega
              generalize (if b + other % 6 - 1 > 0 then b + other % 6 - 1 else 0) = n at hn0
              refine ⟨_, rfl, _, rfl, m, _, 0, _, rfl, rfl, sql hB.mo, rfl, _, _, rfl, rfl, _, rfl, ifd (fun h1 => ?_) (fun h1 => ?_)⟩
              · refine ⟨_, rfl, _, rfl, m, _, 1, _, rfl, rfl, sql hB.mo, rfl, _, _, rfl, rfl, _, rfl, ifd (fun h2 => ?_) (fun h2 => ?_)⟩
                · refine ⟨_, rfl, _, rfl, m, dm, b, a, n, kvm, rfl, hB.mo, hB.md, by omega, kv_ints hB.k2, kv_nd hB.k2 hB.nd, fun dm' G1 hdm' hm1 hd1 hk1 => ?_⟩
                  have hp1 := hk1 p _ hp npm
                  have kA : Keep G G1 := keep_of (fun xs => by rw [hB.mo]; intro z; cases z) hk1
                  have K1 := kv_keep kA hB.k1
                  have K2 := kv_keep kA hB.k2
                  refine ⟨_, rfl, p, dx, _, rfl, hp1, rfl, _, rfl, p, d, b, a, n, kvs, rfl, ⟨⟨dx, hp1⟩, hk1 d _ hd nmd.symm⟩, by omega, kv_ints hB.k1, kv_nd hB.k1 hB.nd, fun z => absurd ⟨h1, h2⟩ z, fun _ _ d' G2 hd' hS2 hk2 => ?_⟩
                  have kB : Keep G1 G2 := keep_of (fun xs => by rw [hp1]; intro z; cases z) hk2
                  have ndp' : dm' ≠ p := (ne_of_none hp hdm').symm
                  refine ⟨d', dm', n, a, keepFrom kvs n, keepFrom kvm n, ps.filter fun p => decide (n ≤ p.1), _, _, _, _, _, _, _, _, _, rfl, ⟨hS2, hk2 m _ hm1 npm.symm, hk2 dm' _ hd1 ndp', kv_keepFrom (kv_keep kB K1), kv_keepFrom (kv_keep kB K2), ?_, (List.filter_sublist.map _).nodup hB.nd, hn0, h2, hal', fun s g1 g2 => ?_, (ne_of_none hd1 hd').symm⟩, ?_, by omega, hk2 o _ (hk1 o _ ho' nmo.symm) npo'.symm⟩
                  · exact Nat.le_trans (List.length_filter_le _ _) hple
                  · rw [atP_filter g1]
                    exact hB.cov s (by omega) g2
                  · have := List.length_filter_le (fun p : Int × Int => decide (n ≤ p.1)) ps
                    omega
                · refine ⟨_, rfl, p, dx, _, rfl, hp, rfl, _, rfl, p, d, b, a, n, kvs, rfl, ⟨⟨dx, hp⟩, hd⟩, by omega, kv_ints hB.k1, kv_nd hB.k1 hB.nd, fun _ => ?_, fun _ z => absurd z h2⟩
                  exact ⟨d, dm, b, a, kvs, kvm, ps, _, _, _, _, _, _, _, _, _, rfl, hB, by omega, by omega, ho'⟩
              · refine ⟨_, rfl, p, dx, _, rfl, hp, rfl, _, rfl, p, d, b, a, n, kvs, rfl, ⟨⟨dx, hp⟩, hd⟩, by omega, kv_ints hB.k1, kv_nd hB.k1 hB.nd, fun _ => ?_, fun z _ => absurd z h1⟩
                exact ⟨d, dm, b, a, kvs, kvm, ps, _, _, _, _, _, _, _, _, _, rfl, hB, by omega, by omega, ho'⟩
            · -- jump
              refine ⟨_, rfl, m, _, 1, _, rfl, rfl, sql hB.mo, rfl, _, rfl, _, _, rfl, rfl, (by show (0 : Int) < _; decide), _, _, rfl, rfl, _, _, rfl, rfl, 0, _, rfl, ?_⟩
              dsimp only
              have hn0 : 0 ≤ (if a + other % 7 - 2 > 0 then a + other % 7 - 2 else 0) ∧ (if a + other % 7 - 2 > 0 then a + other % 7 - 2 else 0) ≤ a + 4 := by split <;> omega
              generalize (if a + other % 7 - 2 > 0 then a + other % 7 - 2 else 0) = n at hn0
              refine ⟨_, rfl, _, rfl, m, _, 1, _, rfl, rfl, sql hB.mo, rfl, _, _, rfl, rfl, _, rfl, ifd (fun h1 => ?_) (fun h1 => ?_)⟩
              · refine ⟨_, rfl, _, rfl, m, dm, b, a, n, kvm, rfl, hB.mo, hB.md, by omega, kv_ints hB.k2, kv_nd hB.k2 hB.nd, fun dm' G1 hdm' hm1 hd1 hk1 => ?_⟩
                refine ⟨_, rfl, _, rfl, m, _, 1, 1, rfl, rfl, hm1, rfl, ?_⟩
                have nmd' : m ≠ dm' := ne_of_none hB.mo hdm'
                have hp1 := lift (u := .lst [.int n, .int n, .ref dm']) (hk1 p _ hp npm) npm
                have hdd := lift (u := .lst [.int n, .int n, .ref dm']) (hk1 d _ hd nmd.symm) nmd.symm
                have hk1' : ∀ x u, G x = some u → x ≠ m → (upd G1 m (.lst [.int n, .int n, .ref dm'])) x = some u := fun x u hx hxm => lift (hk1 x u hx hxm) hxm
                have kA : Keep G (upd G1 m (.lst [.int n, .int n, .ref dm'])) := keep_of (fun xs => by rw [hB.mo]; intro z; cases z) hk1'
                have hm2 : (upd G1 m (.lst [.int n, .int n, .ref dm'])) m = some (.lst [.int n, .int n, .ref dm']) := upd_same
                have hd2 : (upd G1 m (.lst [.int n, .int n, .ref dm'])) dm' = some (.dK (keepFrom kvm n)) := lift hd1 nmd'.symm
                refine ⟨_, rfl, p, dx, _, rfl, hp1, rfl, _, rfl, p, d, b, a, n, kvs, rfl, ⟨⟨dx, hp1⟩, hdd⟩, by omega, kv_ints hB.k1, kv_nd hB.k1 hB.nd, fun z => absurd h1 z, fun _ d' G2 hd' hS2 hk2 => ?_⟩
                have kB : Keep (upd G1 m (.lst [.int n, .int n, .ref dm'])) G2 := keep_of (fun xs => by rw [hp1]; intro z; cases z) hk2
                have ndp' : dm' ≠ p := (ne_of_none hp hdm').symm
                refine ⟨d', dm', n, n, keepFrom kvs n, keepFrom kvm n, ps.filter fun p => decide (n ≤ p.1), _, _, _, _, _, _, _, _, _, rfl, ⟨hS2, hk2 m _ hm2 npm.symm, hk2 dm' _ hd2 ndp', kv_keepFrom (kv_keep kB (kv_keep kA hB.k1)), kv_keepFrom (kv_keep kB (kv_keep kA hB.k2)), ?_, (List.filter_sublist.map _).nodup hB.nd, hn0.1, Int.le_refl _, by omega, fun s g1 g2 => by omega, (ne_of_none hd2 hd').symm⟩, ?_, by omega, hk2 o _ (hk1' o _ ho' nmo.symm) npo'.symm⟩
                · exact Nat.le_trans (List.length_filter_le _ _) hple
                · have := List.length_filter_le (fun p : Int × Int => decide (n ≤ p.1)) ps
                  omega
              · refine ⟨_, rfl, p, dx, _, rfl, hp, rfl, _, rfl, p, d, b, a, n, kvs, rfl, ⟨⟨dx, hp⟩, hd⟩, by omega, kv_ints hB.k1, kv_nd hB.k1 hB.nd, fun _ => ?_, fun z => absurd z h1⟩
                exact ⟨d, dm, b, a, kvs, kvm, ps, _, _, _, _, _, _, _, _, _, rfl, hB, by omega, by omega, ho'⟩
      · rintro σ G ⟨d, dm, b, a, kvs, kvm, ps, x4, x5, x6, x7, x8, x9, x10, x11, x12, rfl, hB, hpl, hal, ho'⟩
        refine ⟨_, rfl, _, rfl, p, d, m, dm, b, a, kvs, kvm, ps, rfl, hB, fun G' s' => ⟨_, rfl, ?_⟩⟩
        exact ⟨d, dm, b, a, kvs, kvm, ps, _, _, _, _, _, _, _, _, _, rfl, hB.same s', hpl, hal, s' _ _ ho'⟩
    · rintro σ G ⟨d, dm, b, a, kvs, kvm, ps, x4, x5, x6, x7, x8, x9, x10, x11, x12, rfl, hB, hpl, hal, ho'⟩
      exact ⟨_, rfl, _, rfl, p, d, m, dm, b, a, kvs, kvm, ps, rfl, hB, fun G' s' => q G'⟩
end
theorem all_mk {l : PySem.W.OpenLaw} {w : World} {K : PySem.W.Frag} {h : Heap} {mg : Str → Option Value} {fa : Addr} (X : K.In h) (G : h.Ns mainGlobals mg) (hfa : mg "law" = some (.ref fa))
    {C_Slots : Addr} {f_Slots___init__ : Addr} {od_Slots___init__ an_Slots___init__ : Option Addr} {sl_Slots___init__ : Array (Option Value)} {oc_Slots___init__ kV_Slots___init__ dc_Slots___init__ pm_Slots___init__ cd_Slots___init__ ct_Slots___init__ : Value} {f_Slots_learn : Addr} {od_Slots_learn an_Slots_learn : Option Addr} {sl_Slots_learn : Array (Option Value)} {oc_Slots_learn kV_Slots_learn dc_Slots_learn pm_Slots_learn cd_Slots_learn ct_Slots_learn : Value} {f_Slots_take : Addr} {od_Slots_take an_Slots_take : Option Addr} {sl_Slots_take : Array (Option Value)} {oc_Slots_take kV_Slots_take dc_Slots_take pm_Slots_take cd_Slots_take ct_Slots_take : Value} {f_Slots_is_behind : Addr} {od_Slots_is_behind an_Slots_is_behind : Option Addr} {sl_Slots_is_behind : Array (Option Value)} {oc_Slots_is_behind kV_Slots_is_behind dc_Slots_is_behind pm_Slots_is_behind cd_Slots_is_behind ct_Slots_is_behind : Value} {f_Slots_value_at : Addr} {od_Slots_value_at an_Slots_value_at : Option Addr} {sl_Slots_value_at : Array (Option Value)} {oc_Slots_value_at kV_Slots_value_at dc_Slots_value_at pm_Slots_value_at cd_Slots_value_at ct_Slots_value_at : Value} {f_Slots_cut : Addr} {od_Slots_cut an_Slots_cut : Option Addr} {sl_Slots_cut : Array (Option Value)} {oc_Slots_cut kV_Slots_cut dc_Slots_cut pm_Slots_cut cd_Slots_cut ct_Slots_cut : Value} {f_Slots_jump : Addr} {od_Slots_jump an_Slots_jump : Option Addr} {sl_Slots_jump : Array (Option Value)} {oc_Slots_jump kV_Slots_jump dc_Slots_jump pm_Slots_jump cd_Slots_jump ct_Slots_jump : Value} {f_Slots__forget_below : Addr} {od_Slots__forget_below an_Slots__forget_below : Option Addr} {sl_Slots__forget_below : Array (Option Value)} {oc_Slots__forget_below kV_Slots__forget_below dc_Slots__forget_below pm_Slots__forget_below cd_Slots__forget_below ct_Slots__forget_below : Value} {f__law_draws : Addr} {od__law_draws an__law_draws : Option Addr} {sl__law_draws : Array (Option Value)} {oc__law_draws kV__law_draws dc__law_draws pm__law_draws cd__law_draws ct__law_draws : Value} {f__law_is_alike : Addr} {od__law_is_alike an__law_is_alike : Option Addr} {sl__law_is_alike : Array (Option Value)} {oc__law_is_alike kV__law_is_alike dc__law_is_alike pm__law_is_alike cd__law_is_alike ct__law_is_alike : Value} {f__law_taken : Addr} {od__law_taken an__law_taken : Option Addr} {sl__law_taken : Array (Option Value)} {oc__law_taken kV__law_taken dc__law_taken pm__law_taken cd__law_taken ct__law_taken : Value} {f__law_forget : Addr} {od__law_forget an__law_forget : Option Addr} {sl__law_forget : Array (Option Value)} {oc__law_forget kV__law_forget dc__law_forget pm__law_forget cd__law_forget ct__law_forget : Value} {f_law : Addr} {od_law an_law : Option Addr} {sl_law : Array (Option Value)} {oc_law kV_law dc_law pm_law cd_law ct_law : Value}
    (gc_Slots : PySem.W.nsIn K mainGlobals "Slots" = some (some (.ref C_Slots)))
    (m_Slots___init__ : PySem.W.findIn K (.ref C_Slots) "__init__" = some (some (.ref f_Slots___init__)))
    (i_Slots___init__ : PySem.W.isFn K (.ref f_Slots___init__) = true)
    (l_Slots___init__ : K.lookup f_Slots___init__ = some ⟨oc_Slots___init__, od_Slots___init__, .func (PySem.W.fnOf "__init__" "Slots.__init__" (defArgs s_Slots___init__) (defBody s_Slots___init__) (defScope s_Slots___init__) .none kV_Slots___init__ dc_Slots___init__ pm_Slots___init__ an_Slots___init__ cd_Slots___init__ ct_Slots___init__), sl_Slots___init__⟩)
    (c_Slots___init__ : PySem.W.codeIn K cd_Slots___init__ "Slots.__init__" = true)
    (k_Slots___init__ : PySem.W.keepIn K (.ref f_Slots___init__) = true)
    (m_Slots_learn : PySem.W.findIn K (.ref C_Slots) "learn" = some (some (.ref f_Slots_learn)))
    (i_Slots_learn : PySem.W.isFn K (.ref f_Slots_learn) = true)
    (l_Slots_learn : K.lookup f_Slots_learn = some ⟨oc_Slots_learn, od_Slots_learn, .func (PySem.W.fnOf "learn" "Slots.learn" (defArgs s_Slots_learn) (defBody s_Slots_learn) (defScope s_Slots_learn) .none kV_Slots_learn dc_Slots_learn pm_Slots_learn an_Slots_learn cd_Slots_learn ct_Slots_learn), sl_Slots_learn⟩)
    (c_Slots_learn : PySem.W.codeIn K cd_Slots_learn "Slots.learn" = true)
    (k_Slots_learn : PySem.W.keepIn K (.ref f_Slots_learn) = true)
    (m_Slots_take : PySem.W.findIn K (.ref C_Slots) "take" = some (some (.ref f_Slots_take)))
    (i_Slots_take : PySem.W.isFn K (.ref f_Slots_take) = true)
    (l_Slots_take : K.lookup f_Slots_take = some ⟨oc_Slots_take, od_Slots_take, .func (PySem.W.fnOf "take" "Slots.take" (defArgs s_Slots_take) (defBody s_Slots_take) (defScope s_Slots_take) .none kV_Slots_take dc_Slots_take pm_Slots_take an_Slots_take cd_Slots_take ct_Slots_take), sl_Slots_take⟩)
    (c_Slots_take : PySem.W.codeIn K cd_Slots_take "Slots.take" = true)
    (k_Slots_take : PySem.W.keepIn K (.ref f_Slots_take) = true)
    (m_Slots_is_behind : PySem.W.findIn K (.ref C_Slots) "is_behind" = some (some (.ref f_Slots_is_behind)))
    (i_Slots_is_behind : PySem.W.isFn K (.ref f_Slots_is_behind) = true)
    (l_Slots_is_behind : K.lookup f_Slots_is_behind = some ⟨oc_Slots_is_behind, od_Slots_is_behind, .func (PySem.W.fnOf "is_behind" "Slots.is_behind" (defArgs s_Slots_is_behind) (defBody s_Slots_is_behind) (defScope s_Slots_is_behind) .none kV_Slots_is_behind dc_Slots_is_behind pm_Slots_is_behind an_Slots_is_behind cd_Slots_is_behind ct_Slots_is_behind), sl_Slots_is_behind⟩)
    (c_Slots_is_behind : PySem.W.codeIn K cd_Slots_is_behind "Slots.is_behind" = true)
    (k_Slots_is_behind : PySem.W.keepIn K (.ref f_Slots_is_behind) = true)
    (m_Slots_value_at : PySem.W.findIn K (.ref C_Slots) "value_at" = some (some (.ref f_Slots_value_at)))
    (i_Slots_value_at : PySem.W.isFn K (.ref f_Slots_value_at) = true)
    (l_Slots_value_at : K.lookup f_Slots_value_at = some ⟨oc_Slots_value_at, od_Slots_value_at, .func (PySem.W.fnOf "value_at" "Slots.value_at" (defArgs s_Slots_value_at) (defBody s_Slots_value_at) (defScope s_Slots_value_at) .none kV_Slots_value_at dc_Slots_value_at pm_Slots_value_at an_Slots_value_at cd_Slots_value_at ct_Slots_value_at), sl_Slots_value_at⟩)
    (c_Slots_value_at : PySem.W.codeIn K cd_Slots_value_at "Slots.value_at" = true)
    (k_Slots_value_at : PySem.W.keepIn K (.ref f_Slots_value_at) = true)
    (m_Slots_cut : PySem.W.findIn K (.ref C_Slots) "cut" = some (some (.ref f_Slots_cut)))
    (i_Slots_cut : PySem.W.isFn K (.ref f_Slots_cut) = true)
    (l_Slots_cut : K.lookup f_Slots_cut = some ⟨oc_Slots_cut, od_Slots_cut, .func (PySem.W.fnOf "cut" "Slots.cut" (defArgs s_Slots_cut) (defBody s_Slots_cut) (defScope s_Slots_cut) .none kV_Slots_cut dc_Slots_cut pm_Slots_cut an_Slots_cut cd_Slots_cut ct_Slots_cut), sl_Slots_cut⟩)
    (c_Slots_cut : PySem.W.codeIn K cd_Slots_cut "Slots.cut" = true)
    (k_Slots_cut : PySem.W.keepIn K (.ref f_Slots_cut) = true)
    (m_Slots_jump : PySem.W.findIn K (.ref C_Slots) "jump" = some (some (.ref f_Slots_jump)))
    (i_Slots_jump : PySem.W.isFn K (.ref f_Slots_jump) = true)
    (l_Slots_jump : K.lookup f_Slots_jump = some ⟨oc_Slots_jump, od_Slots_jump, .func (PySem.W.fnOf "jump" "Slots.jump" (defArgs s_Slots_jump) (defBody s_Slots_jump) (defScope s_Slots_jump) .none kV_Slots_jump dc_Slots_jump pm_Slots_jump an_Slots_jump cd_Slots_jump ct_Slots_jump), sl_Slots_jump⟩)
    (c_Slots_jump : PySem.W.codeIn K cd_Slots_jump "Slots.jump" = true)
    (k_Slots_jump : PySem.W.keepIn K (.ref f_Slots_jump) = true)
    (m_Slots__forget_below : PySem.W.findIn K (.ref C_Slots) "_forget_below" = some (some (.ref f_Slots__forget_below)))
    (i_Slots__forget_below : PySem.W.isFn K (.ref f_Slots__forget_below) = true)
    (l_Slots__forget_below : K.lookup f_Slots__forget_below = some ⟨oc_Slots__forget_below, od_Slots__forget_below, .func (PySem.W.fnOf "_forget_below" "Slots._forget_below" (defArgs s_Slots__forget_below) (defBody s_Slots__forget_below) (defScope s_Slots__forget_below) .none kV_Slots__forget_below dc_Slots__forget_below pm_Slots__forget_below an_Slots__forget_below cd_Slots__forget_below ct_Slots__forget_below), sl_Slots__forget_below⟩)
    (c_Slots__forget_below : PySem.W.codeIn K cd_Slots__forget_below "Slots._forget_below" = true)
    (k_Slots__forget_below : PySem.W.keepIn K (.ref f_Slots__forget_below) = true)
    (g__law_draws : PySem.W.nsIn K mainGlobals "_law_draws" = some (some (.ref f__law_draws)))
    (l__law_draws : K.lookup f__law_draws = some ⟨oc__law_draws, od__law_draws, .func (PySem.W.fnOf "_law_draws" "_law_draws" (defArgs s__law_draws) (defBody s__law_draws) (defScope s__law_draws) .none kV__law_draws dc__law_draws pm__law_draws an__law_draws cd__law_draws ct__law_draws), sl__law_draws⟩)
    (c__law_draws : PySem.W.codeIn K cd__law_draws "_law_draws" = true)
    (k__law_draws : PySem.W.keepIn K (.ref f__law_draws) = true)
    (g__law_is_alike : PySem.W.nsIn K mainGlobals "_law_is_alike" = some (some (.ref f__law_is_alike)))
    (l__law_is_alike : K.lookup f__law_is_alike = some ⟨oc__law_is_alike, od__law_is_alike, .func (PySem.W.fnOf "_law_is_alike" "_law_is_alike" (defArgs s__law_is_alike) (defBody s__law_is_alike) (defScope s__law_is_alike) .none kV__law_is_alike dc__law_is_alike pm__law_is_alike an__law_is_alike cd__law_is_alike ct__law_is_alike), sl__law_is_alike⟩)
    (c__law_is_alike : PySem.W.codeIn K cd__law_is_alike "_law_is_alike" = true)
    (k__law_is_alike : PySem.W.keepIn K (.ref f__law_is_alike) = true)
    (g__law_taken : PySem.W.nsIn K mainGlobals "_law_taken" = some (some (.ref f__law_taken)))
    (l__law_taken : K.lookup f__law_taken = some ⟨oc__law_taken, od__law_taken, .func (PySem.W.fnOf "_law_taken" "_law_taken" (defArgs s__law_taken) (defBody s__law_taken) (defScope s__law_taken) .none kV__law_taken dc__law_taken pm__law_taken an__law_taken cd__law_taken ct__law_taken), sl__law_taken⟩)
    (c__law_taken : PySem.W.codeIn K cd__law_taken "_law_taken" = true)
    (k__law_taken : PySem.W.keepIn K (.ref f__law_taken) = true)
    (g__law_forget : PySem.W.nsIn K mainGlobals "_law_forget" = some (some (.ref f__law_forget)))
    (l__law_forget : K.lookup f__law_forget = some ⟨oc__law_forget, od__law_forget, .func (PySem.W.fnOf "_law_forget" "_law_forget" (defArgs s__law_forget) (defBody s__law_forget) (defScope s__law_forget) .none kV__law_forget dc__law_forget pm__law_forget an__law_forget cd__law_forget ct__law_forget), sl__law_forget⟩)
    (c__law_forget : PySem.W.codeIn K cd__law_forget "_law_forget" = true)
    (k__law_forget : PySem.W.keepIn K (.ref f__law_forget) = true)
    (g_law : PySem.W.nsIn K mainGlobals "law" = some (some (.ref f_law)))
    (l_law : K.lookup f_law = some ⟨oc_law, od_law, .func (PySem.W.fnOf "law" "law" (defArgs s_law) (defBody s_law) (defScope s_law) .none kV_law dc_law pm_law an_law cd_law ct_law), sl_law⟩)
    (c_law : PySem.W.codeIn K cd_law "law" = true)
    (k_law : PySem.W.keepIn K (.ref f_law) = true)
    (pg_Slots : PySem.W.plainGet K C_Slots Str.empty = true)
    (hd_Slots : PySem.W.hasDictIn K C_Slots = true)
    (po_Slots : PySem.W.plainOver K C_Slots = true)
    (sa_Slots : PySem.W.findIn K (.ref C_Slots) "__setattr__" = some (some (.builtin "object.__setattr__")))
    (mk_Slots : PySem.W.makesIn K C_Slots = true)
    (kc_Slots : PySem.W.keepIn K (.ref C_Slots) = true)
    (na_Slots_base : PySem.W.findIn K (.ref C_Slots) "base" = some none)
    (na_Slots_applied : PySem.W.findIn K (.ref C_Slots) "applied" = some none)
    (na_Slots__known : PySem.W.findIn K (.ref C_Slots) "_known" = some none)
    (n_range : PySem.W.nsIn K mainGlobals "range" = some none)
    (n_min : PySem.W.nsIn K mainGlobals "min" = some none)
    (n_len : PySem.W.nsIn K mainGlobals "len" = some none)
    (n_abs : PySem.W.nsIn K mainGlobals "abs" = some none)
    (n_int : PySem.W.nsIn K mainGlobals "int" = some none)
    (n_any : PySem.W.nsIn K mainGlobals "any" = some none)
    (n_isinstance : PySem.W.nsIn K mainGlobals "isinstance" = some none)
    (n_bool : PySem.W.nsIn K mainGlobals "bool" = some none)
    (n_max : PySem.W.nsIn K mainGlobals "max" = some none)
    (n_list : PySem.W.nsIn K mainGlobals "list" = some none) :
    ∃ fd : FuncData, (∀ (s : Shared) (v : Value), BindsTo s fd ⟨[v], []⟩ [("script", v)]) ∧ ∀ base : Heap, K.In base → base.Ns mainGlobals mg → FnOk l.prog w K mg base CX0 3 fa fd ["script"] (sp_law K) := by
  have e : fa = f_law := by
    have z := hfa.symm.trans (PySem.W.mg_of X G g_law)
    injection z with z
    injection z
  rw [e]
  let T : TX K mg := ⟨C_Slots, f_Slots___init__, (PySem.W.fnOf "__init__" "Slots.__init__" (defArgs s_Slots___init__) (defBody s_Slots___init__) (defScope s_Slots___init__) .none kV_Slots___init__ dc_Slots___init__ pm_Slots___init__ an_Slots___init__ cd_Slots___init__ ct_Slots___init__), (fun_mk (st := s_Slots___init__) l_Slots___init__ c_Slots___init__ k_Slots___init__), ((fun_mk (st := s_Slots___init__) l_Slots___init__ c_Slots___init__ k_Slots___init__).binds (ps := ["self"]) fun _ _ _ _ _ _ us hl => match us, hl with | [_], _ => rfl), f_Slots_learn, (PySem.W.fnOf "learn" "Slots.learn" (defArgs s_Slots_learn) (defBody s_Slots_learn) (defScope s_Slots_learn) .none kV_Slots_learn dc_Slots_learn pm_Slots_learn an_Slots_learn cd_Slots_learn ct_Slots_learn), (fun_mk (st := s_Slots_learn) l_Slots_learn c_Slots_learn k_Slots_learn), ((fun_mk (st := s_Slots_learn) l_Slots_learn c_Slots_learn k_Slots_learn).binds (ps := ["self", "slot", "value"]) fun _ _ _ _ _ _ us hl => match us, hl with | [_, _, _], _ => rfl), ⟨m_Slots_learn, i_Slots_learn, k_Slots_learn⟩, f_Slots_take, (PySem.W.fnOf "take" "Slots.take" (defArgs s_Slots_take) (defBody s_Slots_take) (defScope s_Slots_take) .none kV_Slots_take dc_Slots_take pm_Slots_take an_Slots_take cd_Slots_take ct_Slots_take), (fun_mk (st := s_Slots_take) l_Slots_take c_Slots_take k_Slots_take), ((fun_mk (st := s_Slots_take) l_Slots_take c_Slots_take k_Slots_take).binds (ps := ["self"]) fun _ _ _ _ _ _ us hl => match us, hl with | [_], _ => rfl), ⟨m_Slots_take, i_Slots_take, k_Slots_take⟩, f_Slots_is_behind, (PySem.W.fnOf "is_behind" "Slots.is_behind" (defArgs s_Slots_is_behind) (defBody s_Slots_is_behind) (defScope s_Slots_is_behind) .none kV_Slots_is_behind dc_Slots_is_behind pm_Slots_is_behind an_Slots_is_behind cd_Slots_is_behind ct_Slots_is_behind), (fun_mk (st := s_Slots_is_behind) l_Slots_is_behind c_Slots_is_behind k_Slots_is_behind), ((fun_mk (st := s_Slots_is_behind) l_Slots_is_behind c_Slots_is_behind k_Slots_is_behind).binds (ps := ["self"]) fun _ _ _ _ _ _ us hl => match us, hl with | [_], _ => rfl), ⟨m_Slots_is_behind, i_Slots_is_behind, k_Slots_is_behind⟩, f_Slots_value_at, (PySem.W.fnOf "value_at" "Slots.value_at" (defArgs s_Slots_value_at) (defBody s_Slots_value_at) (defScope s_Slots_value_at) .none kV_Slots_value_at dc_Slots_value_at pm_Slots_value_at an_Slots_value_at cd_Slots_value_at ct_Slots_value_at), (fun_mk (st := s_Slots_value_at) l_Slots_value_at c_Slots_value_at k_Slots_value_at), ((fun_mk (st := s_Slots_value_at) l_Slots_value_at c_Slots_value_at k_Slots_value_at).binds (ps := ["self", "slot"]) fun _ _ _ _ _ _ us hl => match us, hl with | [_, _], _ => rfl), ⟨m_Slots_value_at, i_Slots_value_at, k_Slots_value_at⟩, f_Slots_cut, (PySem.W.fnOf "cut" "Slots.cut" (defArgs s_Slots_cut) (defBody s_Slots_cut) (defScope s_Slots_cut) .none kV_Slots_cut dc_Slots_cut pm_Slots_cut an_Slots_cut cd_Slots_cut ct_Slots_cut), (fun_mk (st := s_Slots_cut) l_Slots_cut c_Slots_cut k_Slots_cut), ((fun_mk (st := s_Slots_cut) l_Slots_cut c_Slots_cut k_Slots_cut).binds (ps := ["self", "base"]) fun _ _ _ _ _ _ us hl => match us, hl with | [_, _], _ => rfl), ⟨m_Slots_cut, i_Slots_cut, k_Slots_cut⟩, f_Slots_jump, (PySem.W.fnOf "jump" "Slots.jump" (defArgs s_Slots_jump) (defBody s_Slots_jump) (defScope s_Slots_jump) .none kV_Slots_jump dc_Slots_jump pm_Slots_jump an_Slots_jump cd_Slots_jump ct_Slots_jump), (fun_mk (st := s_Slots_jump) l_Slots_jump c_Slots_jump k_Slots_jump), ((fun_mk (st := s_Slots_jump) l_Slots_jump c_Slots_jump k_Slots_jump).binds (ps := ["self", "base"]) fun _ _ _ _ _ _ us hl => match us, hl with | [_, _], _ => rfl), ⟨m_Slots_jump, i_Slots_jump, k_Slots_jump⟩, f_Slots__forget_below, (PySem.W.fnOf "_forget_below" "Slots._forget_below" (defArgs s_Slots__forget_below) (defBody s_Slots__forget_below) (defScope s_Slots__forget_below) .none kV_Slots__forget_below dc_Slots__forget_below pm_Slots__forget_below an_Slots__forget_below cd_Slots__forget_below ct_Slots__forget_below), (fun_mk (st := s_Slots__forget_below) l_Slots__forget_below c_Slots__forget_below k_Slots__forget_below), ((fun_mk (st := s_Slots__forget_below) l_Slots__forget_below c_Slots__forget_below k_Slots__forget_below).binds (ps := ["self", "base"]) fun _ _ _ _ _ _ us hl => match us, hl with | [_, _], _ => rfl), ⟨m_Slots__forget_below, i_Slots__forget_below, k_Slots__forget_below⟩, f__law_draws, (PySem.W.fnOf "_law_draws" "_law_draws" (defArgs s__law_draws) (defBody s__law_draws) (defScope s__law_draws) .none kV__law_draws dc__law_draws pm__law_draws an__law_draws cd__law_draws ct__law_draws), (fun_mk (st := s__law_draws) l__law_draws c__law_draws k__law_draws), ((fun_mk (st := s__law_draws) l__law_draws c__law_draws k__law_draws).binds (ps := ["script"]) fun _ _ _ _ _ _ us hl => match us, hl with | [_], _ => rfl), (PySem.W.mg_of X G g__law_draws), f__law_is_alike, (PySem.W.fnOf "_law_is_alike" "_law_is_alike" (defArgs s__law_is_alike) (defBody s__law_is_alike) (defScope s__law_is_alike) .none kV__law_is_alike dc__law_is_alike pm__law_is_alike an__law_is_alike cd__law_is_alike ct__law_is_alike), (fun_mk (st := s__law_is_alike) l__law_is_alike c__law_is_alike k__law_is_alike), ((fun_mk (st := s__law_is_alike) l__law_is_alike c__law_is_alike k__law_is_alike).binds (ps := ["slots", "model"]) fun _ _ _ _ _ _ us hl => match us, hl with | [_, _], _ => rfl), (PySem.W.mg_of X G g__law_is_alike), f__law_taken, (PySem.W.fnOf "_law_taken" "_law_taken" (defArgs s__law_taken) (defBody s__law_taken) (defScope s__law_taken) .none kV__law_taken dc__law_taken pm__law_taken an__law_taken cd__law_taken ct__law_taken), (fun_mk (st := s__law_taken) l__law_taken c__law_taken k__law_taken), ((fun_mk (st := s__law_taken) l__law_taken c__law_taken k__law_taken).binds (ps := ["model"]) fun _ _ _ _ _ _ us hl => match us, hl with | [_], _ => rfl), (PySem.W.mg_of X G g__law_taken), f__law_forget, (PySem.W.fnOf "_law_forget" "_law_forget" (defArgs s__law_forget) (defBody s__law_forget) (defScope s__law_forget) .none kV__law_forget dc__law_forget pm__law_forget an__law_forget cd__law_forget ct__law_forget), (fun_mk (st := s__law_forget) l__law_forget c__law_forget k__law_forget), ((fun_mk (st := s__law_forget) l__law_forget c__law_forget k__law_forget).binds (ps := ["model", "base"]) fun _ _ _ _ _ _ us hl => match us, hl with | [_, _], _ => rfl), (PySem.W.mg_of X G g__law_forget), f_law, (PySem.W.fnOf "law" "law" (defArgs s_law) (defBody s_law) (defScope s_law) .none kV_law dc_law pm_law an_law cd_law ct_law), (fun_mk (st := s_law) l_law c_law k_law), ((fun_mk (st := s_law) l_law c_law k_law).binds (ps := ["script"]) fun _ _ _ _ _ _ us hl => match us, hl with | [_], _ => rfl), (PySem.W.mg_of X G g_law), ⟨pg_Slots, hd_Slots, po_Slots, sa_Slots⟩, (PySem.W.mg_of X G gc_Slots), ⟨mk_Slots, m_Slots___init__, i_Slots___init__, kc_Slots⟩, na_Slots_base, na_Slots_applied, na_Slots__known, (PySem.W.mg_none_of X G n_range), (PySem.W.mg_none_of X G n_min), (PySem.W.mg_none_of X G n_len), (PySem.W.mg_none_of X G n_abs), (PySem.W.mg_none_of X G n_int), (PySem.W.mg_none_of X G n_any), (PySem.W.mg_none_of X G n_isinstance), (PySem.W.mg_none_of X G n_bool), (PySem.W.mg_none_of X G n_max), (PySem.W.mg_none_of X G n_list)⟩
  exact ⟨T.d_law, fun s v => .of_eq rfl, fun base _ _ => ok_law T⟩
end My
open PySem PySem.W PyProof.Rows
set_option maxHeartbeats 0 in
theorem PySem.Challenge.cw_majordomo_k17_slots_in_order_holds : PySem.Challenge.rw_majordomo_k17_slots_in_order.Holds := by
  w_on; o_law; k_head; (case hw => w_witness2)
  k_fill
  refine L2.walk_of (l := PySem.Challenge.rw_majordomo_k17_slots_in_order) (n := 63) (k := 3) (x := "script") (CX := (fun _ => L2.CX0)) (sp := fun w => My.sp_law _) rfl (by decide) rfl ⟨rfl, by decide, by decide⟩ (fun w h Y => PySem.W.kIn_of Y) ?F (fun _ _ a ns hl _ hS => ⟨a, ns, rfl, hS, hl, fun _ => rfl⟩) (fun _ _ _ _ _ h => h)
  case F =>
    intro w mg fa h KX G hmg
    refine' My.all_mk KX G hmg ?gc_Slots ?m_Slots___init__ ?i_Slots___init__ ?l_Slots___init__ ?c_Slots___init__ ?k_Slots___init__ ?m_Slots_learn ?i_Slots_learn ?l_Slots_learn ?c_Slots_learn ?k_Slots_learn ?m_Slots_take ?i_Slots_take ?l_Slots_take ?c_Slots_take ?k_Slots_take ?m_Slots_is_behind ?i_Slots_is_behind ?l_Slots_is_behind ?c_Slots_is_behind ?k_Slots_is_behind ?m_Slots_value_at ?i_Slots_value_at ?l_Slots_value_at ?c_Slots_value_at ?k_Slots_value_at ?m_Slots_cut ?i_Slots_cut ?l_Slots_cut ?c_Slots_cut ?k_Slots_cut ?m_Slots_jump ?i_Slots_jump ?l_Slots_jump ?c_Slots_jump ?k_Slots_jump ?m_Slots__forget_below ?i_Slots__forget_below ?l_Slots__forget_below ?c_Slots__forget_below ?k_Slots__forget_below ?g__law_draws ?l__law_draws ?c__law_draws ?k__law_draws ?g__law_is_alike ?l__law_is_alike ?c__law_is_alike ?k__law_is_alike ?g__law_taken ?l__law_taken ?c__law_taken ?k__law_taken ?g__law_forget ?l__law_forget ?c__law_forget ?k__law_forget ?g_law ?l_law ?c_law ?k_law ?pg_Slots ?hd_Slots ?po_Slots ?sa_Slots ?mk_Slots ?kc_Slots ?na_Slots_base ?na_Slots_applied ?na_Slots__known ?n_range ?n_min ?n_len ?n_abs ?n_int ?n_any ?n_isinstance ?n_bool ?n_max ?n_list
    (case gc_Slots => k_is); (case m_Slots___init__ => k_is); (case i_Slots___init__ => k_is); (case l_Slots___init__ => k_is); (case c_Slots___init__ => k_is); (case k_Slots___init__ => k_is); (case m_Slots_learn => k_is); (case i_Slots_learn => k_is); (case l_Slots_learn => k_is); (case c_Slots_learn => k_is); (case k_Slots_learn => k_is); (case m_Slots_take => k_is); (case i_Slots_take => k_is); (case l_Slots_take => k_is); (case c_Slots_take => k_is); (case k_Slots_take => k_is); (case m_Slots_is_behind => k_is); (case i_Slots_is_behind => k_is); (case l_Slots_is_behind => k_is); (case c_Slots_is_behind => k_is); (case k_Slots_is_behind => k_is); (case m_Slots_value_at => k_is); (case i_Slots_value_at => k_is); (case l_Slots_value_at => k_is); (case c_Slots_value_at => k_is); (case k_Slots_value_at => k_is); (case m_Slots_cut => k_is); (case i_Slots_cut => k_is); (case l_Slots_cut => k_is); (case c_Slots_cut => k_is); (case k_Slots_cut => k_is); (case m_Slots_jump => k_is); (case i_Slots_jump => k_is); (case l_Slots_jump => k_is); (case c_Slots_jump => k_is); (case k_Slots_jump => k_is); (case m_Slots__forget_below => k_is); (case i_Slots__forget_below => k_is); (case l_Slots__forget_below => k_is); (case c_Slots__forget_below => k_is); (case k_Slots__forget_below => k_is); (case g__law_draws => k_is); (case l__law_draws => k_is); (case c__law_draws => k_is); (case k__law_draws => k_is); (case g__law_is_alike => k_is); (case l__law_is_alike => k_is); (case c__law_is_alike => k_is); (case k__law_is_alike => k_is); (case g__law_taken => k_is); (case l__law_taken => k_is); (case c__law_taken => k_is); (case k__law_taken => k_is); (case g__law_forget => k_is); (case l__law_forget => k_is); (case c__law_forget => k_is); (case k__law_forget => k_is); (case g_law => k_is); (case l_law => k_is); (case c_law => k_is); (case k_law => k_is); (case pg_Slots => k_is); (case hd_Slots => k_is); (case po_Slots => k_is); (case sa_Slots => k_is); (case mk_Slots => k_is); (case kc_Slots => k_is); (case na_Slots_base => k_is); (case na_Slots_applied => k_is); (case na_Slots__known => k_is); (case n_range => k_is); (case n_min => k_is); (case n_len => k_is); (case n_abs => k_is); (case n_int => k_is); (case n_any => k_is); (case n_isinstance => k_is); (case n_bool => k_is); (case n_max => k_is); (case n_list => k_is)

