import PyProof.Rows.All
import Wide.All
import OpenK.AllK
import Wide.FinOn
import HandS.ForMost
import HandS.IsInst
import HandS.EndBits
import HandS.Wide
import HandS.WideBits
import HandS.TupAny
import HandS.Codes
import HandS.Defaults
import HandS.ForExc
import HandS.TryMany
import HandS.ExcIs
import HandS.TryElse
import HandS.DictComp
import HandS.Walk
import PySem.Challenge.RW_majordomo_k03_two_changed_bytes
set_option Elab.async false
set_option linter.all false
set_option maxRecDepth 100000
set_option maxHeartbeats 4000000

namespace My
open PySem PySem.Spec PyProof.Rows L2
/-! own words: tests, heaps, items -/
theorem ifd {p A B : Prop} [Decidable p] (h1 : p → A) (h2 : ¬ p → B) : if decide p = true then A else B := by
  by_cases h : p
  · rw [decide_eq_true h]; exact (if_pos rfl).mpr (h1 h)
  · rw [decide_eq_false h]; exact (if_neg Bool.false_ne_true).mpr (h2 h)
theorem ifn {p A B : Prop} [Decidable p] (h1 : ¬ p → A) (h2 : p → B) : if (!decide p) = true then A else B := by
  by_cases h : p
  · rw [decide_eq_true h]; exact (if_neg Bool.false_ne_true).mpr (h2 h)
  · rw [decide_eq_false h]; exact (if_pos rfl).mpr (h1 h)
theorem ift {p A B : Prop} [Decidable p] (h : p) (h1 : A) : if decide p = true then A else B := by
  rw [decide_eq_true h]; exact (if_pos rfl).mpr h1
theorem iff0 {p A B : Prop} [Decidable p] (h : ¬ p) (h1 : B) : if decide p = true then A else B := by
  rw [decide_eq_false h]; exact (if_neg Bool.false_ne_true).mpr h1
theorem ifnt {p A B : Prop} [Decidable p] (h : p) (h1 : B) : if (!decide p) = true then A else B := by
  rw [decide_eq_true h]; exact (if_neg Bool.false_ne_true).mpr h1
theorem ifbt {b : Bool} {A B : Prop} (h : b = true) (h1 : A) : if b = true then A else B := (if_pos h).mpr h1
theorem ifbf {b : Bool} {A B : Prop} (h : b = false) (h1 : B) : if b = true then A else B := by rw [h]; exact h1
theorem ifb2 {b : Bool} {A B : Prop} (h1 : b = true → A) (h2 : b = false → B) : if b = true then A else B := by
  cases b with
  | true => exact h1 rfl
  | false => exact h2 rfl
theorem same_upd {H : Hp} {p : Addr} {o : HO} (h : H p = none) : Same H (upd H p o) := fun b x e => by
  rw [upd_ne (ne_of_none e h)]
  exact e
theorem same_put {H H' : Hp} {p : Addr} {o : HO} (e : Same H H') (h : H p = none) : Same H (upd H' p o) := fun b x q => by
  rw [upd_ne (ne_of_none q h)]
  exact e b x q
theorem sqt_same {K : PySem.W.Frag} {H H' : Hp} {a : Addr} {xs : List V} (e : Same H H') (h : SqT K H a xs) : SqT K H' a xs := by
  rcases h with (h | ⟨o, h⟩) | h
  · exact .inl (.inl (e _ _ h))
  · exact .inl (.inr ⟨o, e _ _ h⟩)
  · exact .inr h
theorem sql {K : PySem.W.Frag} {H : Hp} {a : Addr} {xs : List V} (h : H a = some (.lst xs)) : SqL K H a xs := .inl (.inl h)
theorem sqt {K : PySem.W.Frag} {H : Hp} {a : Addr} {xs : List V} (h : H a = some (.tup xs)) : SqT K H a xs := .inl (.inl h)
theorem sz {n : Nat} (h : n ≤ 100000) : n ≤ sizeLine := Nat.le_trans h (by decide)
theorem szl {n : Nat} (h : n ≤ 100000) : n < sizeLine := Nat.lt_of_le_of_lt h (by decide)
theorem map_at {α : Type} {f : α → V} {xs : List α} {i : Nat} {y : V} (h : (xs.map f)[i]? = some y) : ∃ x, xs[i]? = some x ∧ y = f x := by
  rw [List.getElem?_map] at h
  cases e : xs[i]? with
  | none => rw [e] at h; cases h
  | some x => rw [e] at h; exact ⟨x, rfl, (Option.some.inj h).symm⟩
theorem at_map {α : Type} {f : α → V} {xs : List α} {i : Nat} {x : α} (h : xs[i]? = some x) : atI (xs.map f) (i : Int) = some (f x) := atI_nat (by rw [List.getElem?_map, h]; rfl)
theorem take_more {α : Type} {l : List α} {i : Nat} {x : α} (h : l[i]? = some x) : l.take (i + 1) = l.take i ++ [x] := by
  rw [List.take_add_one, h]; rfl
/-! deep data stands as long as what was tracked stands -/
mutual
theorem dp_same {K : PySem.W.Frag} {H H' : Hp} (e : Same H H') : ∀ (d : PyData) {v : V}, Dp K H v d → Dp K H' v d
  | _, _, .non => .non
  | _, _, .bl b => .bl b
  | _, _, .int i => .int i
  | _, _, .str x => .str x
  | .list ds, _, .lst h a => .lst (e.seq h) (dpa_same e ds a)
  | .tuple ds, _, .tup h a => .tup (sqt_same e h) (dpa_same e ds a)
theorem dpa_same {K : PySem.W.Frag} {H H' : Hp} (e : Same H H') : ∀ (ds : List PyData) {vs : List V}, DpAll K H vs ds → DpAll K H' vs ds
  | [], _, .nil => .nil
  | d :: ds, _, .cons h a => .cons (dp_same e d h) (dpa_same e ds a)
end
theorem dpa_len {K : PySem.W.Frag} {H : Hp} : ∀ {vs : List V} {ds : List PyData}, DpAll K H vs ds → vs.length = ds.length
  | _, _, .nil => rfl
  | _, _, .cons _ a => by rw [List.length_cons, List.length_cons, dpa_len a]
theorem dpa_at {K : PySem.W.Frag} {H : Hp} : ∀ {vs : List V} {ds : List PyData} {i : Nat} {v : V}, DpAll K H vs ds → vs[i]? = some v → ∃ d, ds[i]? = some d ∧ Dp K H v d
  | _, _, _, _, .nil, h => by simp at h
  | _, _, 0, _, .cons h _, e => ⟨_, rfl, by have := Option.some.inj e; subst this; exact h⟩
  | _, _, i + 1, _, .cons _ a, e => dpa_at (i := i) a (by simpa using e)
theorem dpa_app {K : PySem.W.Frag} {H : Hp} : ∀ {vs ws : List V} {ds es : List PyData}, DpAll K H vs ds → DpAll K H ws es → DpAll K H (vs ++ ws) (ds ++ es)
  | _, _, _, _, .nil, b => b
  | _, _, _, _, .cons h a, b => .cons h (dpa_app a b)
theorem eqv_self {d : PyData} (h : SeqAt.shaped d = true) : PyData.eqv d d = true := SeqAt.eqv_refl d (SeqAt.canLay_of_shaped h)
/-! data that may be compared -/
theorem layAll : ∀ {ds : List PyData}, (∀ d ∈ ds, d.canLay0 = true) → PyData.canLayAll0 ds = true
  | [], _ => rfl
  | d :: ds, h => by
    rw [PyData.canLayAll0, h d List.mem_cons_self, layAll fun e he => h e (List.mem_cons_of_mem _ he)]; rfl
theorem depAll {n : Nat} : ∀ {ds : List PyData}, (∀ d ∈ ds, d.depth ≤ n) → PyData.depthAll ds ≤ n
  | [], _ => Nat.zero_le _
  | d :: ds, h => by
    have h1 := h d List.mem_cons_self
    have h2 := depAll (ds := ds) fun e he => h e (List.mem_cons_of_mem _ he)
    simp only [PyData.depthAll]
    omega
/-- plain data of at most this depth -/
def Flat (n : Nat) (d : PyData) : Prop := d.canLay0 = true ∧ d.depth ≤ n
theorem flat_list {n : Nat} {ds : List PyData} (h : ∀ d ∈ ds, Flat n d) : Flat (n + 1) (.list ds) :=
  ⟨by rw [PyData.canLay0]; exact layAll fun d hd => (h d hd).1, by have := depAll (n := n) fun d hd => (h d hd).2; simp only [PyData.depth]; omega⟩
theorem flat_tup {n : Nat} {ds : List PyData} (h : ∀ d ∈ ds, Flat n d) : Flat (n + 1) (.tuple ds) :=
  ⟨by rw [PyData.canLay0]; exact layAll fun d hd => (h d hd).1, by have := depAll (n := n) fun d hd => (h d hd).2; simp only [PyData.depth]; omega⟩
theorem flat_int (n : Nat) (i : Int) : Flat n (.int i) := ⟨rfl, by simp [PyData.depth]⟩
theorem flat_str (n : Nat) (x : Str) (h : (PyData.str x).canLay0 = true := by decide +kernel) : Flat n (.str x) := ⟨h, by simp [PyData.depth]⟩
theorem flat_bl (n : Nat) (b : Bool) : Flat n (.bool b) := ⟨rfl, by simp [PyData.depth]⟩
theorem flat_non (n : Nat) : Flat n .none := ⟨rfl, by simp [PyData.depth]⟩
theorem Flat.mono {n m : Nat} {d : PyData} (h : Flat n d) (hm : n ≤ m) : Flat m d := ⟨h.1, Nat.le_trans h.2 hm⟩
theorem Flat.sh {n : Nat} {d : PyData} (h : Flat n d) (hn : n ≤ 64) : SeqAt.shaped d = true := by
  show (d.canLay0 && decide (d.depth ≤ 64)) = true
  rw [Bool.and_eq_true]
  exact ⟨h.1, decide_eq_true (Nat.le_trans h.2 hn)⟩
theorem tyx_t {K : PySem.W.Frag} {H : Hp} {a : Addr} {xs : List V} (h : SqT K H a xs) : TyX K H (.ref a) (.type "tuple") := by
  rcases h with (h | ⟨o, h⟩) | ⟨o, its, n, h, hc, _⟩
  · exact .base (.tup h)
  · exact .fTuple h
  · exact .kTuple h hc
theorem tyx_l {K : PySem.W.Frag} {H : Hp} {a : Addr} {xs : List V} (h : SqL K H a xs) : TyX K H (.ref a) (.type "list") := by
  rcases h with (h | ⟨o, h⟩) | ⟨o, its, n, h, hc, _⟩
  · exact .base (.lst h)
  · exact .base (.frz h)
  · exact .kList h hc
theorem same_both {G H : Hp} {t : Addr} {x : HO} (e : Same G H) : Same (upd G t x) (upd H t x) := fun b o h => by
  by_cases hb : b = t
  · subst hb; rw [upd_same] at h ⊢; exact h
  · rw [upd_ne hb] at h ⊢; exact e b o h
theorem set_self {α : Type} : ∀ {l : List α} {i : Nat} {x : α}, l[i]? = some x → l.set i x = l
  | [], i, x, h => by simp at h
  | a :: l, 0, x, h => by
    have e : a = x := Option.some.inj h
    subst e
    rfl
  | a :: l, i + 1, x, h => by
    show a :: l.set i x = a :: l
    rw [set_self (by simpa using h)]
theorem ixn {n j : Nat} {i : Int} (hi : i = (j : Int)) (hj : j < n) : ixN n i = some j := by
  unfold ixN
  rw [if_pos (by omega), if_pos (by omega)]
  congr 1
  omega
/-! shifts and masks in place -/
section
variable {X : Cx}
theorem ip_shr : PIp X .RShift (fun x y H Q => ∃ (i : Int) (k : Nat), x = .int i ∧ y = .int (k : Int) ∧ Q (.int (i / 2 ^ k)) H) := by
  intro pins s σ H x y v u Q I r1 r2 h
  obtain ⟨i, k, e1, e2, q⟩ := h
  subst e1; subst e2
  obtain ⟨t, rfl⟩ := r1
  obtain ⟨t', rfl⟩ := r2
  refine irshift_int (Int.natCast_nonneg k) ⟨.int _, H, I.tok _, ⟨_, rfl⟩, ?_⟩
  rw [Int.toNat_natCast, Int.fdiv_eq_ediv_of_nonneg _ (Int.le_of_lt (Int.pow_pos (by decide)))]
  exact q
theorem ip_or : PIp X .BitOr (fun x y H Q => ∃ (r a : Int) (k : Nat), x = .int r ∧ y = .int (a * 2 ^ k) ∧ (0 ≤ a ∧ 0 ≤ r ∧ r < 2 ^ k) ∧ Q (.int (r + a * 2 ^ k)) H) := by
  intro pins s σ H x y v u Q I r1 r2 h
  obtain ⟨r, a, k, e1, e2, ⟨h0, h1, h2⟩, q⟩ := h
  subst e1; subst e2
  obtain ⟨t, rfl⟩ := r1
  obtain ⟨t', rfl⟩ := r2
  refine ior_int ⟨.int _, H, I.tok _, ⟨_, rfl⟩, ?_⟩
  have e : Builtin.bitOr r (a * 2 ^ k) = r + a * 2 ^ k := by
    have hp : (0 : Int) ≤ a * 2 ^ k := Int.mul_nonneg h0 (Int.le_of_lt (Int.pow_pos (by decide)))
    rw [bitOr_nn h1 hp, Nat.or_comm, ← bitOr_nn hp h1, or_low h0 h1 h2, Int.add_comm]
  rw [e]
  exact q
end
theorem bits_small : ∀ n : Nat, n < 128 → Builtin.Int.intBits (n : Int) ≤ 8 := by decide +kernel
/-- isinstance(e, c) of the error that a suite holds, its class known by the reading -/
theorem call_isE1 {X : Cx} {a D : Addr} {oe : Obj} {cls : Value} {d : Option Addr} {pn : List (Addr × Obj)} (C : ExcC X.K D) (hz : Zc cls d oe) (hf : ∃ vs, oe.data = .fields vs) :
    CallR (X.suite a ((a, oe) :: pn)) (.builtin "isinstance") (fun xs H Q => cls = .ref D ∧ d = none ∧ rIsE X.K D a xs H Q) := fun pins s σ H xs us Q I r h => by
  obtain ⟨h1, h2, h⟩ := h
  subst h1
  subst h2
  exact call_isE C hz hf pins s σ H xs us Q I r h
/-! slices -/
theorem sIx_le {n d : Nat} {i : Nat} : HT.sIx n d (some (i : Int)) = min i n := HT.sIx_nat n d i
theorem cut0n (xs : List V) (j : Nat) : cutV xs none (some (j : Int)) = xs.take j := by
  unfold cutV
  rw [sIx_le, HT.sIx_none, List.drop_zero, Nat.sub_zero]
  exact (List.take_eq_take_min).symm
theorem cutnn (xs : List V) (i j : Nat) : cutV xs (some (i : Int)) (some (j : Int)) = (xs.drop i).take (j - i) := by
  unfold cutV
  rw [sIx_le, sIx_le]
  by_cases hi : i ≤ xs.length
  · rw [Nat.min_eq_left hi]
    by_cases hj : j ≤ xs.length
    · rw [Nat.min_eq_left hj]
    · rw [Nat.min_eq_right (by omega), List.take_of_length_le (by rw [List.length_drop]; omega), List.take_of_length_le (by rw [List.length_drop]; omega)]
  · have e : min i xs.length = xs.length := by omega
    rw [e, List.drop_of_length_le (Nat.le_refl _), List.drop_of_length_le (show xs.length ≤ i by omega), List.take_nil, List.take_nil]
theorem cut_ints (ns : List Int) {i j : Nat} {a b : Int} (ha : a = i) (hb : b = j) : cutV (ns.map V.int) (some a) (some b) = ((ns.drop i).take (j - i)).map V.int := by
  rw [ha, hb, cutnn, ← List.map_drop, ← List.map_take]
theorem rep_ints (ns : List Int) (k : Nat) : (List.replicate k (ns.map V.int)).flatten = (List.replicate k ns).flatten.map V.int := by
  rw [List.map_flatten, List.map_replicate]
/-- [e for x in a slice], e changes nothing -/
theorem lc_cut {K : PySem.W.Frag} {wi : TI} {te : TE} {s : Nat} {σ : L2.St} {H : Hp} {Q : VK} (xs : List V) (f : V → V)
    (hwi : ∀ R : It → Hp → Prop, (∀ p, H p = none → R (Itl K p) (upd H p (.lst xs))) → wi σ H R) (hlen : xs.length ≤ 90000)
    (hw : ∀ x, wipe ((wipe σ [s]).set s (some x)) [s] = wipe σ [s])
    (he : ∀ (i : Nat) (x : V) (G : Hp) (Q' : VK), xs[i]? = some x → Same H G → Q' (f x) G → te ((wipe σ [s]).set s (some x)) G Q')
    (k : ∀ D H', H D = none → Same H H' → H' D = some (.lst (xs.map f)) → Q (.ref D) H') : tLc wi (gName s) tYes te [s] σ H Q := by
  refine hwi _ fun p hp D hD => ?_
  have nD : D ≠ p := fun z => by rw [z, upd_same] at hD; cases hD
  have hD0 : H D = none := by rw [upd_ne nD] at hD; exact hD
  refine lc_list (K := K) (a := p) (xs := xs) (fun i H' => Same H H' ∧ H' p = some (.lst xs) ∧ H' D = some (.lst ((xs.take i).map f)))
    ⟨(same_upd hp).trans (same_upd hD), by rw [upd_ne nD.symm, upd_same], by rw [upd_same]; rfl⟩ (fun i H' _ h => sql h.2.1) (fun i x G hx hG => ?_) (fun G hG => ?_)
  · refine ⟨hw x, ?_⟩
    refine he i x G _ hx hG.1 ⟨_, hG.2.2, szl (by rw [List.length_map, List.length_take]; omega), same_put hG.1 hD0, by rw [upd_ne nD.symm]; exact hG.2.1, ?_⟩
    rw [upd_same, take_more hx, List.map_append]
    rfl
  · refine k D G hD0 hG.1 ?_
    rw [List.take_length] at hG
    exact hG.2.2
/-- lists of ints as data -/
theorem dpa_ints {K : PySem.W.Frag} {H : Hp} : ∀ ns : List Int, DpAll K H (ns.map V.int) (ns.map PyData.int)
  | [] => .nil
  | n :: ns => .cons (.int n) (dpa_ints ns)
theorem dp_ints {K : PySem.W.Frag} {H : Hp} {a : Addr} {ns : List Int} (h : SqL K H a (ns.map V.int)) : Dp K H (.ref a) (.list (ns.map PyData.int)) := .lst h (dpa_ints ns)
theorem flat_ints (ns : List Int) : Flat 1 (.list (ns.map PyData.int)) := flat_list (n := 0) fun d hd => by
  obtain ⟨i, _, rfl⟩ := List.mem_map.mp hd
  exact flat_int _ _
theorem flat_tints (ns : List Int) : Flat 1 (.tuple (ns.map PyData.int)) := flat_tup (n := 0) fun d hd => by
  obtain ⟨i, _, rfl⟩ := List.mem_map.mp hd
  exact flat_int _ _
theorem eqvAll_ints : ∀ xs ys : List Int, PyData.eqvAll (xs.map .int) (ys.map .int) = decide (xs = ys)
  | [], [] => rfl
  | [], _ :: _ => rfl
  | _ :: _, [] => rfl
  | x :: xs, y :: ys => by
    show ((x == y) && PyData.eqvAll (xs.map .int) (ys.map .int)) = _
    rw [eqvAll_ints xs ys, Bool.eq_iff_iff]
    simp
theorem eqv_ints (xs ys : List Int) : PyData.eqv (.list (xs.map .int)) (.list (ys.map .int)) = decide (xs = ys) := eqvAll_ints xs ys
theorem eqv_tints (xs ys : List Int) : PyData.eqv (.tuple (xs.map .int)) (.tuple (ys.map .int)) = decide (xs = ys) := eqvAll_ints xs ys
/-- a def with defaults that lets nothing out -/
theorem okD {P : Program} {w : World} {K : PySem.W.Frag} {mg : Str → Option Value} {base : Heap} {x qual : Str} {params : Arguments} {body : List Stmt} {scope : Scope} {dvs : List V} {kws : List (Str × V)} {f : Addr} {fd : FuncData} {N ps : List Str} {k : Nat} {sp : Sp}
    (F : FunD K x qual params body scope dvs kws f fd) (S : FnScope N ps scope) (len : ∀ vs H Q E, sp vs H Q E → vs.length = ps.length)
    (hb : ∀ (cdv : Value) (A : Around) (outer : List Env) (s : Shared) (H : Hp) (vs : List V) (Q : VK) (E : XK), Room k (A.deeper (envOfC qual scope s.heap.objs.size f cdv)) → sp vs H Q E →
      ∃ t, PSs (cxOf CX0 P w K mg base N qual scope f cdv A outer s H E).nox body t ∧ t { nx := fun _ H' => Q .non H', rt := Q } (start N vs) H) : FnOk P w K mg base CX0 (k + 1) f fd ps sp :=
  F.ok S len fun cdv A outer s H vs Q E hr h => by
    obtain ⟨t, h1, q⟩ := hb cdv A outer s H vs Q E hr h
    exact ⟨t, h1.nox, q⟩
/-! what an expression gives, whatever stands besides -/
def EI (te : TE) (σ : L2.St) (H : Hp) (v : V) : Prop := ∀ G, Same H G → ∀ Q : VK, Q v G → te σ G Q
def EA (ta : TA) (σ : L2.St) (H : Hp) (vs : List V) : Prop := ∀ G, Same H G → ∀ Q : List V → Hp → Prop, Q vs G → ta σ G Q
/-- a list, new or old -/
def EL (te : TE) (σ : L2.St) (H : Hp) (xs : List V) : Prop := ∀ G, Same H G → ∀ Q : VK, (∀ p G', Same G G' → G' p = some (.lst xs) → Q (.ref p) G') → te σ G Q
section
variable {K : PySem.W.Frag} {σ : L2.St} {H : Hp} {ta tb te : TE} {x y z v : V} {xs ys : List V}
theorem ei_var {i : Nat} (h : σ[i]? = some (some v)) : EI (tVar i) σ H v := fun _ _ _ q => ⟨v, h, q⟩
theorem ei_c : EI (tC v) σ H v := fun _ _ _ q => q
theorem ei_op {r : R2} (ha : EI ta σ H x) (hb : EI tb σ H y) (hr : ∀ G, Same H G → ∀ Q : VK, Q z G → r x y G Q) : EI (tOp r ta tb) σ H z := fun G s Q q => ha G s _ (hb G s _ (hr G s Q q))
theorem ei_i0 {g : Int → Int → V} {i j : Int} (ha : EI ta σ H (.int i)) (hb : EI tb σ H (.int j)) : EI (tOp (rI0 g) ta tb) σ H (g i j) := ei_op ha hb fun _ _ _ q => ⟨i, j, rfl, rfl, q⟩
theorem ei_ic {C : Int → Int → Prop} {g : Int → Int → V} {i j : Int} (ha : EI ta σ H (.int i)) (hb : EI tb σ H (.int j)) (hc : C i j) : EI (tOp (rI C g) ta tb) σ H (g i j) := ei_op ha hb fun _ _ _ q => ⟨i, j, rfl, rfl, hc, q⟩
theorem ea_nil : EA tNil σ H [] := fun _ _ _ q => q
theorem ea_cons {tr : TA} {vs : List V} (h : EI ta σ H x) (g : EA tr σ H vs) : EA (tCons ta tr) σ H (x :: vs) := fun G s _ q => h G s _ (g G s _ q)
theorem ei_cb {r : List V → Hp → VK → Prop} {tr : TA} {vs : List V} (ha : EA tr σ H vs) (hr : ∀ G, Same H G → ∀ Q : VK, Q z G → r vs G Q) : EI (tCB r tr) σ H z := fun G s Q q => ha G s _ (hr G s Q q)
/-- len of a list, list(..) of a list or a tuple, as they are read -/
def rLen (K : PySem.W.Frag) : List V → Hp → VK → Prop := fun xs H Q => ∃ p ys, xs = [.ref p] ∧ (SqL K H p ys ∨ SqT K H p ys) ∧ Q (.int ys.length) H
def rLst (K : PySem.W.Frag) : List V → Hp → VK → Prop := fun xs H Q => ∃ p ys, xs = [.ref p] ∧ (SqL K H p ys ∨ SqT K H p ys) ∧ ∀ l, H l = none → Q (.ref l) (upd H l (.lst ys))
def rTup (K : PySem.W.Frag) : List V → Hp → VK → Prop := fun xs H Q => ∃ p ys, xs = [.ref p] ∧ ((SqL K H p ys ∧ ∀ l, H l = none → Q (.ref l) (upd H l (.tup ys))) ∨ (SqT K H p ys ∧ Q (.ref p) H))
theorem callK_tuple {X : Cx} (h : X.K = K) : CallR X (.type "tuple") (rTup K) := by subst h; exact call_tuple_of
theorem callK_list {X : Cx} (h : X.K = K) : CallR X (.type "list") (rLst K) := by subst h; exact call_list_of
theorem opK_catA {X : Cx} (h : X.K = K) : OpR X (binaryOp .Add) (rCatA K) := by subst h; exact op_catA
theorem ixK_list {X : Cx} (h : X.K = K) : IxR X (rIxL K) := by subst h; exact ix_list
theorem ixK_tup {X : Cx} (h : X.K = K) : IxR X (rIxT K) := by subst h; exact ix_tup
theorem pe_fldK {X : Cx} {e : Expr} {f : Str} {pos : Pos} {ta : TE} (h : X.K = K) (he : PE X e ta) (hb : attributeBase e f X.env (eval e X.env) = eval e X.env) : PE X (.Attribute e f pos) (tFld K ta f) := by subst h; exact pe_fld he hb
theorem callK_len {X : Cx} (h : X.K = K) : CallR X (.builtin "len") (rLen K) := by subst h; exact call_len_seq
theorem ei_lenL {i : Nat} {p : Addr} (h : σ[i]? = some (some (.ref p))) (e : SqL K H p xs) : EI (tCB (rLen K) (tCons (tVar i) tNil)) σ H (.int (xs.length : Int)) := ei_cb (ea_cons (ei_var h) ea_nil) fun _ s _ q => ⟨p, xs, rfl, .inl (s.seq e), q⟩
theorem ei_lenT {i : Nat} {p : Addr} (h : σ[i]? = some (some (.ref p))) (e : SqT K H p xs) : EI (tCB (rLen K) (tCons (tVar i) tNil)) σ H (.int (xs.length : Int)) := ei_cb (ea_cons (ei_var h) ea_nil) fun _ s _ q => ⟨p, xs, rfl, .inr (sqt_same s e), q⟩
theorem ei_fld {i : Nat} {p C dx : Addr} {fs : List (Str × V)} {f : Str} (h : σ[i]? = some (some (.ref p))) (hp : H p = some (.ins C dx fs)) (c : Cls K C) (n : NoAttr K C f) (l : fs.lookup f = some v) : EI (tFld K (tVar i) f) σ H v := fun _ s _ q => ⟨.ref p, h, p, C, dx, fs, v, rfl, s _ _ hp, c, n, l, q⟩
theorem ei_din {td : TE} {d : Addr} {kvs : List (Key × V)} {k : Key} (hy : EI te σ H (kV k)) (hd : EI td σ H (.ref d)) (e : H d = some (.dK kvs)) : EI (tDIn te td) σ H (.bl (valV kvs k).isSome) := fun G s _ q => hy G s _ (hd G s _ ⟨d, _, rfl, DGet.k (s _ _ e), q⟩)
theorem ei_dnotin {td : TE} {d : Addr} {kvs : List (Key × V)} {k : Key} (hy : EI te σ H (kV k)) (hd : EI td σ H (.ref d)) (e : H d = some (.dK kvs)) : EI (tDNotIn te td) σ H (.bl (!(valV kvs k).isSome)) := fun G s _ q => hy G s _ (hd G s _ ⟨d, _, rfl, DGet.k (s _ _ e), q⟩)
theorem ei_dget {td : TE} {d : Addr} {kvs : List (Key × V)} {k : Key} (hy : EI te σ H (kV k)) (hd : EI td σ H (.ref d)) (e : H d = some (.dK kvs)) (hv : valV kvs k = some v) : EI (tDGet td te) σ H v := fun G s _ q => hd G s _ (hy G s _ ⟨d, v, rfl, by rw [← hv]; exact DGet.k (s _ _ e), q⟩)
theorem ei_ixL {p : Addr} {j : Int} (ha : EI ta σ H (.ref p)) (hi : EI tb σ H (.int j)) (e : SqL K H p xs) (h : atI xs j = some v) : EI (tOp (rIxL K) ta tb) σ H v := ei_op ha hi fun _ s _ q => ⟨p, xs, j, v, rfl, rfl, s.seq e, h, q⟩
theorem ei_ixT {p : Addr} {j : Int} (ha : EI ta σ H (.ref p)) (hi : EI tb σ H (.int j)) (e : SqT K H p xs) (h : atI xs j = some v) : EI (tOp (rIxT K) ta tb) σ H v := ei_op ha hi fun _ s _ q => ⟨p, xs, j, v, rfl, rfl, sqt_same s e, h, q⟩
theorem ei_eq (ha : EI ta σ H x) (hb : EI tb σ H y) (h : scal x y = true) : EI (tOp rEq ta tb) σ H (.bl (decide (x = y))) := ei_op ha hb fun _ _ _ q => ⟨h, q⟩
theorem ei_ne (ha : EI ta σ H x) (hb : EI tb σ H y) (h : scal x y = true) : EI (tOp rNe ta tb) σ H (.bl (!decide (x = y))) := ei_op ha hb fun _ _ _ q => ⟨h, q⟩
/-- a test by its value -/
theorem tt_use {b : Bool} {Q : Bool → Hp → Prop} (h : EI te σ H (.bl b)) (k : Q b H) : tTest te σ H Q := h H (Same.refl _) _ ⟨b, rfl, k⟩
theorem tb_use {b : Bool} {Q : Bool → Hp → Prop} (h : EI te σ H (.bl b)) (k : Q b H) : tB te σ H Q := h H (Same.refl _) _ ⟨b, rfl, k⟩
theorem el_var {i : Nat} {p : Addr} (h : σ[i]? = some (some (.ref p))) (e : H p = some (.lst xs)) : EL (tVar i) σ H xs := fun G s _ q => ⟨.ref p, h, q p G (Same.refl _) (s _ _ e)⟩
/-- a new list -/
def EN (te : TE) (σ : L2.St) (H : Hp) (xs : List V) : Prop := ∀ G, Same H G → ∀ Q : VK, (∀ p G', G p = none → Same G G' → G' p = some (.lst xs) → Q (.ref p) G') → te σ G Q
theorem EN.el (h : EN te σ H xs) : EL te σ H xs := fun G s Q q => h G s Q fun p G' _ => q p G'
theorem en_lst {tr : TA} {vs : List V} (ha : EA tr σ H vs) (hl : vs.length ≤ 90000) : EN (tLst tr) σ H vs := fun G s _ q => ha G s _ ⟨sz (by omega), fun p hp => q p _ hp (same_upd hp) upd_same⟩
theorem en_cat (ha : EL ta σ H xs) (hb : EL tb σ H ys) (hl : xs.length + ys.length ≤ 90000) : EN (tOp rCat ta tb) σ H (xs ++ ys) := fun G s _ q =>
  ha G s _ fun p G1 s1 e1 => hb G1 (s.trans s1) _ fun p2 G2 s2 e2 => ⟨p, p2, xs, ys, rfl, rfl, s2 _ _ e1, e2, sz (by omega), fun p3 h3 => q p3 _ ((s1.trans s2).free h3) ((s1.trans s2).trans (same_upd h3)) upd_same⟩
theorem en_rep {k : Int} (ha : EL ta σ H xs) (hb : EI tb σ H (.int k)) (h1 : -1000000 ≤ k) (h2 : k ≤ 1000000) (hl : xs.length * k.toNat ≤ 90000) : EN (tOp rRep ta tb) σ H (List.replicate k.toNat xs).flatten := fun G s _ q =>
  ha G s _ fun p G1 s1 e1 => hb G1 (s.trans s1) _ ⟨p, k, xs, rfl, rfl, e1, by omega, by omega, sz (by omega), fun p3 h3 => q p3 _ (s1.free h3) (s1.trans (same_upd h3)) upd_same⟩
theorem el_lst {tr : TA} {vs : List V} (ha : EA tr σ H vs) (hl : vs.length ≤ 90000) : EL (tLst tr) σ H vs := (en_lst ha hl).el
theorem el_cat (ha : EL ta σ H xs) (hb : EL tb σ H ys) (hl : xs.length + ys.length ≤ 90000) : EL (tOp rCat ta tb) σ H (xs ++ ys) := (en_cat ha hb hl).el
theorem el_rep {k : Int} (ha : EL ta σ H xs) (hb : EI tb σ H (.int k)) (h1 : -1000000 ≤ k) (h2 : k ≤ 1000000) (hl : xs.length * k.toNat ≤ 90000) : EL (tOp rRep ta tb) σ H (List.replicate k.toNat xs).flatten := (en_rep ha hb h1 h2 hl).el
theorem el_cb {r : List V → Hp → VK → Prop} {tr : TA} {vs : List V} (ha : EA tr σ H vs) (hr : ∀ G, Same H G → ∀ Q : VK, (∀ p G', Same G G' → G' p = some (.lst xs) → Q (.ref p) G') → r vs G Q) : EL (tCB r tr) σ H xs := fun G s Q q => ha G s _ (hr G s Q q)
theorem el_call {sp : Sp} {dvs : List V} {E : XK} {tr : TA} {vs : List V} (ha : EA tr σ H vs) (hr : ∀ G, Same H G → ∀ Q : VK, (∀ p G', Same G G' → G' p = some (.lst xs) → Q (.ref p) G') → sp (vs ++ dvs) G Q E) : EL (tCall sp dvs E tr) σ H xs := fun G s Q q => ha G s _ (hr G s Q q)
theorem el_listL {i : Nat} {p : Addr} (h : σ[i]? = some (some (.ref p))) (e : SqL K H p xs) : EL (tCB (rLst K) (tCons (tVar i) tNil)) σ H xs := el_cb (ea_cons (ei_var h) ea_nil) fun _ s _ q => ⟨p, xs, rfl, .inl (s.seq e), fun l hl => q l _ (same_upd hl) upd_same⟩
theorem el_listT {i : Nat} {p : Addr} (h : σ[i]? = some (some (.ref p))) (e : SqT K H p xs) : EL (tCB (rLst K) (tCons (tVar i) tNil)) σ H xs := el_cb (ea_cons (ei_var h) ea_nil) fun _ s _ q => ⟨p, xs, rfl, .inr (sqt_same s e), fun l hl => q l _ (same_upd hl) upd_same⟩
/-- x = an expression that gives a list -/
theorem EL.use {Q : VK} (h : EL te σ H xs) (k : ∀ p H', Same H H' → H' p = some (.lst xs) → Q (.ref p) H') : te σ H Q := h H (Same.refl _) Q k
theorem EN.use {Q : VK} (h : EN te σ H xs) (k : ∀ p H', H p = none → Same H H' → H' p = some (.lst xs) → Q (.ref p) H') : te σ H Q := h H (Same.refl _) Q k
theorem EI.use {Q : VK} (h : EI te σ H v) (k : Q v H) : te σ H Q := h H (Same.refl _) Q k
end
/-- defaults: what is bound where keywords give the rest -/
theorem kb_one {K : PySem.W.Frag} {x qual : Str} {params : Arguments} {body : List Stmt} {scope : Scope} {dvs : List V} {f : Addr} {fd : FuncData} {ps : List Str} (F : FunD K x qual params body scope dvs [] f fd) (n : Nat) (ks : List Str) (hd : dvs ≠ [])
    (h : ∀ (T : Addr) (kV doc pm : Value) (an : Option Addr) (cdv ct : Value) (us ws its : List Value), us.length = n → ws.length = ks.length → its.length = dvs.length →
      ∃ k, bindArgs (PySem.W.fnOf x qual params body scope (.ref T) kV doc pm an cdv ct) ⟨us, ks.zip ws⟩ = seqItems? (.ref T) >>= k ∧ k (some its.toArray) = pure (ps.zip (us ++ ws))) :
    KBn K fd ps n ks (fun us ws => us ++ ws) (fun vs zs => vs ++ zs) := by
  obtain ⟨oc, od, dV, kV, doc, pm, an, cdv, ct, osl, rfl, lk, hcd, hD, hK⟩ := F.ex
  rcases hD with ⟨e, _⟩ | ⟨_, T, o, its, m, rfl, lT, oT, rT⟩
  · exact absurd e hd
  · refine ⟨fun s us ws X h1 h2 => BindsTo.of_looks fun M => ?_, fun r1 r2 => r1.append r2⟩
    obtain ⟨k, e1, e2⟩ := h T kV doc pm an cdv ct us ws its h1 h2 rT.length.symm
    rw [e1]
    exact looks_items X lT oT (.of_pure e2)
theorem andV_use {ta tb : TE} {σ : L2.St} {H : Hp} {Q : VK} {x y : Bool} (h1 : EI ta σ H (.bl x)) (h2 : x = true → ∀ Q' : VK, (∀ H', Same H H' → Q' (.bl y) H') → tb σ H Q') (k : ∀ H', Same H H' → Q (.bl (x && y)) H') : tAndV ta tb σ H Q := by
  refine h1 H (Same.refl _) _ ⟨x, rfl, ?_⟩
  cases x with
  | true => exact (if_pos rfl).mpr (h2 rfl _ k)
  | false => exact (if_neg Bool.false_ne_true).mpr (k H (Same.refl _))
/-- what is locked and let go stands as it stood -/
theorem unlock {H H' : Hp} {d : Addr} {od : Obj} {u : HO} (e : H d = some u) (s : Same (upd H d (.frz od u)) H') : Same H (upd H' d u) := fun b o h => by
  by_cases hb : b = d
  · subst hb
    rw [upd_same, ← e]
    exact h
  · rw [upd_ne hb]
    exact s b o (by rw [upd_ne hb]; exact h)
theorem take_filter {α : Type} {l : List α} {i : Nat} {x : α} (f : α → Bool) (h : l[i]? = some x) : (l.take (i + 1)).filter f = (l.take i).filter f ++ if f x then [x] else [] := by
  rw [take_more h, List.filter_append]
  cases e : f x <;> simp [e]
/-- [e for k in d if t] over the keys of a dict, t and e change nothing -/
theorem lc_keys {td te : TE} {tt : TT} {s : Nat} {σ : L2.St} {H : Hp} {Q : VK} (d : Addr) (kvs : List (Key × V)) (f : Key → Bool) (g : Key → V) (e : H d = some (.dK kvs)) (hlen : kvs.length ≤ 90000)
    (htd : ∀ od, EI td σ (upd H d (.frz od (.dK kvs))) (.ref d))
    (hw : ∀ x, wipe ((wipe σ [s]).set s (some x)) [s] = wipe σ [s])
    (ht : ∀ (od : Obj) (i : Nat) (k : Key) (v : V) (G : Hp) (Q' : Bool → Hp → Prop), kvs[i]? = some (k, v) → Same (upd H d (.frz od (.dK kvs))) G → Q' (f k) G → tt ((wipe σ [s]).set s (some (kV k))) G Q')
    (he : ∀ (od : Obj) (i : Nat) (k : Key) (v : V) (G : Hp) (Q' : VK), kvs[i]? = some (k, v) → Same (upd H d (.frz od (.dK kvs))) G → Q' (g k) G → te ((wipe σ [s]).set s (some (kV k))) G Q')
    (k : ∀ D H', H D = none → Same H H' → H' D = some (.lst ((kvs.filter fun kv => f kv.1).map fun kv => g kv.1)) → Q (.ref D) H') : tLockE (tLc (iKeys td) (gName s) tt te [s]) σ H Q := by
  refine ⟨d, _, e, trivial, fun od => htd od _ (Same.refl _) _ ⟨d, od, rfl, .inl ⟨kvs, upd_same, fun D hD => ?_⟩⟩⟩
  have nD : D ≠ d := fun z => by rw [z, upd_same] at hD; cases hD
  have hD0 : H D = none := by rw [upd_ne nD] at hD; exact hD
  refine lc_it walk_keys (fun i G => Same (upd H d (.frz od (.dK kvs))) G ∧ G D = some (.lst (((kvs.take i).filter fun kv => f kv.1).map fun kv => g kv.1)))
    ⟨same_upd hD, upd_same⟩ (fun i G _ h => h.1 _ _ upd_same) (fun i x G G' hi hG hy => ?_) (fun G hG => ?_)
  · obtain ⟨rfl, key, v, hkv, rfl⟩ := hy
    have hfl : ((kvs.take i).filter fun kv => f kv.1).length ≤ 90000 := Nat.le_trans (List.length_filter_le _ _) (by rw [List.length_take]; omega)
    refine ⟨hw _, ht od i key v _ _ hkv hG.1 ?_⟩
    have hts := take_filter (fun kv : Key × V => f kv.1) hkv
    cases hf : f key with
    | true =>
      refine (if_pos rfl).mpr (he od i key v _ _ hkv hG.1 ⟨_, hG.2, szl (by rw [List.length_map]; omega), same_put hG.1 hD, ?_⟩)
      rw [upd_same, hts, List.map_append]
      simp only [hf, if_true]
      rfl
    | false =>
      refine (if_neg Bool.false_ne_true).mpr ⟨hG.1, ?_⟩
      rw [hts]
      simp only [hf, Bool.false_eq_true, if_false, List.append_nil]
      exact hG.2
  · rw [List.take_length] at hG
    refine ⟨hG.1 _ _ upd_same, k D _ hD0 (unlock e hG.1) ?_⟩
    rw [upd_ne nD]
    exact hG.2
theorem put_fresh {kvs : List (Key × V)} {k : Key} {v : V} (h : ∀ kv ∈ kvs, kv.1 ≠ k) : putK kvs k v = kvs ++ [(k, v)] := by
  unfold putK
  rw [if_neg]
  intro z
  obtain ⟨kv, hm, hk⟩ := List.any_eq_true.mp z
  exact h kv hm (of_decide_eq_true hk)
theorem nd_ne {α β : Type} {l : List (α × β)} {i : Nat} {x : α × β} (nd : (l.map (·.1)).Nodup) (h : l[i]? = some x) : ∀ y ∈ l.take i, y.1 ≠ x.1 := fun y hy z => by
  obtain ⟨j, hj, rfl⟩ := List.getElem_of_mem hy
  rw [List.length_take] at hj
  rw [List.getElem_take] at z
  obtain ⟨hi, rfl⟩ := List.getElem?_eq_some_iff.mp h
  have e1 : (l.map (·.1))[j]? = some l[i].1 := by rw [List.getElem?_map, List.getElem?_eq_getElem (by omega), ← z]; rfl
  have e2 : (l.map (·.1))[i]? = some l[i].1 := by rw [List.getElem?_map, List.getElem?_eq_getElem hi]; rfl
  have := nd_ix nd e1 e2
  omega
/-- {k: e for k in d if t} over the keys of a dict -/
theorem dc_keys {td tv : TE} {tt : TT} {s : Nat} {σ : L2.St} {H : Hp} {Q : VK} (d : Addr) (kvs : List (Key × V)) (f : Key → Bool) (g : Key × V → V) (e : H d = some (.dK kvs)) (hlen : kvs.length ≤ 90000) (nd : (kvs.map (·.1)).Nodup)
    (htd : ∀ od, EI td σ (upd H d (.frz od (.dK kvs))) (.ref d))
    (hw : ∀ x, wipe ((wipe σ [s]).set s (some x)) [s] = wipe σ [s])
    (ht : ∀ (od : Obj) (i : Nat) (k : Key) (v : V) (G : Hp) (Q' : Bool → Hp → Prop), kvs[i]? = some (k, v) → Same (upd H d (.frz od (.dK kvs))) G → Q' (f k) G → tt ((wipe σ [s]).set s (some (kV k))) G Q')
    (he : ∀ (od : Obj) (i : Nat) (k : Key) (v : V) (G : Hp) (Q' : VK), kvs[i]? = some (k, v) → f k = true → Same (upd H d (.frz od (.dK kvs))) G → Q' (g (k, v)) G → tv ((wipe σ [s]).set s (some (kV k))) G Q')
    (hn : ∀ i, (wipe σ [s]).length = i → s < i)
    (k : ∀ D H', H D = none → Same H H' → H' D = some (.dK ((kvs.filter fun kv => f kv.1).map fun kv => (kv.1, g kv))) → Q (.ref D) H') : tLockE (tDc (iKeys td) (gName s) tt (tVar s) tv [s]) σ H Q := by
  have hs : s < (wipe σ [s]).length := hn _ rfl
  refine ⟨d, _, e, trivial, fun od => htd od _ (Same.refl _) _ ⟨d, od, rfl, .inl ⟨kvs, upd_same, fun D hD => ?_⟩⟩⟩
  have nD : D ≠ d := fun z => by rw [z, upd_same] at hD; cases hD
  have hD0 : H D = none := by rw [upd_ne nD] at hD; exact hD
  let Pv : Nat → Hp → Prop := fun i G => Same (upd H d (.frz od (.dK kvs))) G ∧ G D = some (.dK (((kvs.take i).filter fun kv => f kv.1).map fun kv => (kv.1, g kv)))
  have step : ∀ i x G G', i < kvs.length → Pv i G → (G' = G ∧ ∃ k v, kvs[i]? = some (k, v) ∧ x = kV k) → gName s x (wipe σ [s]) G' fun σ2 H2 => wipe σ2 [s] = wipe σ [s] ∧ tt σ2 H2 fun b H3 =>
      if b = true then tVar s σ2 H3 fun y H4 => tv σ2 H4 fun z H5 => ∃ kvs' k', y = kV k' ∧ H5 D = some (.dK kvs') ∧ kvs'.length < sizeLine ∧ Pv (i + 1) (upd H5 D (.dK (putK kvs' k' z))) else Pv (i + 1) H3 := fun i x G G' hi hG hy => by
    obtain ⟨rfl, key, v, hkv, rfl⟩ := hy
    have hfl : ((kvs.take i).filter fun kv => f kv.1).length ≤ 90000 := Nat.le_trans (List.length_filter_le _ _) (by rw [List.length_take]; omega)
    refine ⟨hw _, ht od i key v _ _ hkv hG.1 ?_⟩
    have hts := take_filter (fun kv : Key × V => f kv.1) hkv
    cases hf : f key with
    | true =>
      refine (if_pos rfl).mpr ⟨kV key, by rw [List.getElem?_set_self hs], he od i key v _ _ hkv hf hG.1 ⟨_, key, rfl, hG.2, szl (by rw [List.length_map]; omega), same_put hG.1 hD, ?_⟩⟩
      rw [upd_same, hts, List.map_append, put_fresh]
      · simp only [hf, if_true]
        rfl
      · intro kv hm
        obtain ⟨y, hy, rfl⟩ := List.mem_map.mp hm
        exact nd_ne nd hkv y (List.mem_filter.mp hy).1
    | false =>
      refine (if_neg Bool.false_ne_true).mpr ⟨hG.1, ?_⟩
      rw [hts]
      simp only [hf, Bool.false_eq_true, if_false, List.append_nil]
      exact hG.2
  refine ⟨fun i m G => m = kvs.length - i ∧ i ≤ kvs.length ∧ Pv i G, ⟨kvs.length, by simp, Nat.zero_le _, same_upd hD, upd_same⟩, ?_⟩
  rintro i m G ⟨rfl, hi, hP⟩
  by_cases hlt : i < kvs.length
  · exact .inr ⟨⟨hP.1 _ _ upd_same, hlt⟩, Pv (i + 1), fun G' p' => ⟨kvs.length - (i + 1), by omega, rfl, hlt, p'⟩, fun x G' y => step i x G G' hlt hP y⟩
  · have ei : i = kvs.length := by omega
    subst ei
    obtain ⟨h1, h2⟩ := hP
    rw [List.take_length] at h2
    refine .inl ⟨⟨h1 _ _ upd_same, Nat.le_refl _⟩, h1 _ _ upd_same, k D _ hD0 (unlock e h1) ?_⟩
    rw [upd_ne nD]
    exact h2
end My
local macro_rules | `(tactic| walk_at "go") => `(tactic| try dsimp only [L2.gName, L2.tSeq, L2.tAsg, L2.tNext, L2.tDrop])
namespace My
open PySem PySem.Spec PyProof.Rows L2
def topS (i : Nat) : Stmt := PySem.Challenge.pw_majordomo_k03_two_changed_bytes.main.body.getD i (.Pass ⟨0, 0, 0, 0⟩)
abbrev s_checksum : Stmt := (topS 2)
theorem sc_checksum : FnScope ["row", "start", "first", "second", "byte"] ["row", "start"] (defScope s_checksum) := ⟨rfl, rfl, rfl, by decide +kernel, rfl, by decide +kernel, by decide +kernel⟩
abbrev s__law_draws : Stmt := (topS 4)
theorem sc__law_draws : FnScope ["script", "many", "draws", "mixed", "k", "cell", "rest", "turn"] ["script", "many"] (defScope s__law_draws) := ⟨rfl, rfl, rfl, by decide +kernel, rfl, by decide +kernel, by decide +kernel⟩
abbrev s__law_changed : Stmt := (topS 5)
theorem sc__law_changed : FnScope ["row", "draws", "changed", "one", "two", "step"] ["row", "draws"] (defScope s__law_changed) := ⟨rfl, rfl, rfl, by decide +kernel, rfl, by decide +kernel, by decide +kernel⟩
abbrev s_law : Stmt := (topS 6)
theorem sc_law : FnScope ["script", "draws", "row", "expected", "k", "changed", "draw"] ["script"] (defScope s_law) := ⟨rfl, rfl, rfl, by decide +kernel, rfl, by decide +kernel, by decide +kernel⟩

structure TX (K : PySem.W.Frag) (mg : Str → Option Value) where
  a_checksum : Addr
  d_checksum : FuncData
  da_checksum_0 : Addr
  dq_checksum_0 : ∀ H, SqT K H da_checksum_0 [(.int 1), (.int 1)]
  FD_checksum : FunD K "checksum" "checksum" (defArgs s_checksum) (defBody s_checksum) (defScope s_checksum) [.ref da_checksum_0] [] a_checksum d_checksum
  bD_checksum_1 : ∃ ds, Vals (([.ref da_checksum_0] : List V).drop 0) ds ∧ Binds K d_checksum ["row", "start"] ds
  bD_checksum_2 : ∃ ds, Vals (([.ref da_checksum_0] : List V).drop 1) ds ∧ Binds K d_checksum ["row", "start"] ds
  g_checksum : mg "checksum" = some (.ref a_checksum)
  a__law_draws : Addr
  d__law_draws : FuncData
  F__law_draws : Fun K "_law_draws" "_law_draws" s__law_draws a__law_draws d__law_draws
  b__law_draws : Binds K d__law_draws ["script", "many"] []
  g__law_draws : mg "_law_draws" = some (.ref a__law_draws)
  a__law_changed : Addr
  d__law_changed : FuncData
  F__law_changed : Fun K "_law_changed" "_law_changed" s__law_changed a__law_changed d__law_changed
  b__law_changed : Binds K d__law_changed ["row", "draws"] []
  g__law_changed : mg "_law_changed" = some (.ref a__law_changed)
  a_law : Addr
  d_law : FuncData
  F_law : Fun K "law" "law" s_law a_law d_law
  b_law : Binds K d_law ["script"] []
  g_law : mg "law" = some (.ref a_law)
  t_MODULUS : Tok
  c_MODULUS : mg "MODULUS" = some (.int 65521 t_MODULUS)
  n_range : mg "range" = none
  n_len : mg "len" = none
  n_abs : mg "abs" = none
  n_int : mg "int" = none
  n_list : mg "list" = none

/-! the draws of a script: many numbers from 0 to 996 -/
def Drawn (ds : List Int) : Prop := ∀ d ∈ ds, 0 ≤ d ∧ d < 997
theorem drawn_app {ds es : List Int} (h : Drawn ds) (g : Drawn es) : Drawn (ds ++ es) := fun d hd => (List.mem_append.mp hd).elim (h d) (g d)
theorem drawn_one {d : Int} (h : 0 ≤ d) (g : d < 997) : Drawn [d] := fun e he => by rw [List.mem_singleton] at he; subst he; exact ⟨h, g⟩
theorem drawn_take {ds : List Int} (n : Nat) (h : Drawn ds) : Drawn (ds.take n) := fun d hd => h d (List.mem_of_mem_take hd)
def sp_draws (K : PySem.W.Frag) : Sp := fun vs H Q _ => ∃ (a : Addr) (ns : List Int) (many : Nat), vs = [.ref a, .int (many : Int)] ∧ SqL K H a (ns.map V.int) ∧ ns.length ≤ 63 ∧ many ≤ 1000 ∧
  ∀ (p : Addr) (H' : Hp) (ds : List Int), H p = none → Same H H' → H' p = some (.lst (ds.map V.int)) → Drawn ds → ds.length = many → Q (.ref p) H'
section
variable {P : Program} {w : World} {K : PySem.W.Frag} {mg : Str → Option Value} {base : Heap}
theorem ok__law_draws (T : TX K mg) : FnOk P w K mg base CX0 1 T.a__law_draws T.d__law_draws ["script", "many"] (sp_draws K) := by
  refine T.F__law_draws.ok sc__law_draws (fun vs H Q E h => ?_) (fun cdv A outer s H vs Q E hr h => ?_)
  · obtain ⟨a, ns, many, rfl, _⟩ := h
    rfl
  · obtain ⟨a, ns, many, rfl, hS, hlen, hm, q⟩ := h
    refine ⟨_, (pss_cons (ps_set (i := 2) sc__law_draws.nd rfl (Or.inl rfl) (pe_lst pa_nil))
      (pss_cons (ps_set (i := 3) sc__law_draws.nd rfl (Or.inl rfl) pe_int)
      (pss_cons (ps_for PassesOwn.never rfl (pi_range1 (by rfl) T.n_range (pa_cons (pe_callB call_len_seq (by rfl) T.n_len PySem.boot_len (pa_cons (pv 0) pa_nil)) pa_nil)) (pg_name (i := 4) sc__law_draws.nd rfl (Or.inl rfl))
        (pss_cons (ps_set (i := 5) sc__law_draws.nd rfl (Or.inl rfl) (pe_callB call_abs (by rfl) T.n_abs (by decide +kernel) (pa_cons (pe_callTy call_int1 (by rfl) T.n_int (by decide +kernel) (pa_cons (pe_ix ix_list (pv 0) (pv 4) (fun _ _ => rfl)) pa_nil)) pa_nil)))
        (pss_cons (ps_set (i := 3) sc__law_draws.nd rfl (Or.inl rfl) (pe_op op_mod (pe_callTy call_int1 (by rfl) T.n_int (by decide +kernel) (pa_cons (pe_op op_add (pe_op op_add (pe_op op_mul (pv 3) pe_int) (pe_op op_mod (pv 5) pe_int)) (pv 4)) pa_nil)) pe_int))
        (pss_cons (ps_set (i := 6) sc__law_draws.nd rfl (Or.inl rfl) pe_int)
        (C8.pss_cut (ps_if (pt_cmpR op_ge (pv 5) (pe_op op_pow pe_int pe_int) (nomark _)) (pss_one (ps_set (i := 6) sc__law_draws.nd rfl (Or.inl rfl) (pv 5))) (pss_cons (ps_expr (pe_bm PySem.F.plainAttrs_list PySem.F.slot_list_append PySem.F.type_list_append mt_append (pv 2) (pa_cons (pe_op op_mod (pv 5) pe_int) pa_nil)))
          (pss_one (ps_expr (pe_bm PySem.F.plainAttrs_list PySem.F.slot_list_append PySem.F.type_list_append mt_append (pv 2) (pa_cons (pe_op op_mod (pe_op op_mod (pe_callTy call_int1 (by rfl) T.n_int (by decide +kernel) (pa_cons (pe_op op_add (pe_op op_mul (pv 3) pe_int) pe_int) pa_nil)) pe_int) pe_int) pa_nil))))))
        (pss_one (ps_for PassesOwn.never rfl (pi_range1 (by rfl) T.n_range (pa_cons pe_int pa_nil)) (pg_name (i := 7) sc__law_draws.nd rfl (Or.inl rfl))
          (pss_one (ps_if (pt_cmpR op_gt (pv 6) pe_int (nomark _)) (pss_cons (ps_expr (pe_bm PySem.F.plainAttrs_list PySem.F.slot_list_append PySem.F.type_list_append mt_append (pv 2) (pa_cons (pe_op op_mod (pe_callTy call_int1 (by rfl) T.n_int (by decide +kernel) (pa_cons (pv 6) pa_nil)) pe_int) pa_nil)))
            (pss_one (ps_set (i := 6) sc__law_draws.nd rfl (Or.inl rfl) (pe_op op_fdiv (pv 6) pe_int)))) pss_nil)))))))))
      (pss_cons (ps_for PassesOwn.never rfl (pi_range1 (by rfl) T.n_range (pa_cons (pv 1) pa_nil)) (pg_name (i := 4) sc__law_draws.nd rfl (Or.inl rfl))
        (pss_cons (ps_set (i := 3) sc__law_draws.nd rfl (Or.inl rfl) (pe_op op_mod (pe_callTy call_int1 (by rfl) T.n_int (by decide +kernel) (pa_cons (pe_op op_add (pe_op op_add (pe_op op_mul (pv 3) pe_int) (pv 4)) pe_int) pa_nil)) pe_int))
        (pss_one (ps_expr (pe_bm PySem.F.plainAttrs_list PySem.F.slot_list_append PySem.F.type_list_append mt_append (pv 2) (pa_cons (pe_op op_mod (pe_callTy call_int1 (by rfl) T.n_int (by decide +kernel) (pa_cons (pv 3) pa_nil)) pe_int) pa_nil))))))
      (pss_one (ps_ret (pe_slice sl_list (pv 2) po_none (po_some (pv 1))))))))), ?_⟩
    refine ⟨Nat.zero_le _, fun o ho => ?_⟩
    have s1 := same_upd (o := .lst []) ho
    -- each cell
    refine ⟨_, rfl, a, _, rfl, .inl (s1.seq hS), _, rfl, by rw [List.length_map]; omega, by rw [List.length_map]; omega, for_range (lo := 0) (n := _) (fun i σ H2 => ∃ (ds : List Int) (mx : Int) (x4 x5 x6 x7 : Option V), σ = [some (.ref a), some (.int (many : Int)), some (.ref o), some (.int mx), x4, x5, x6, x7] ∧ Same H H2 ∧ H2 o = some (.lst (ds.map V.int)) ∧ Drawn ds ∧ ds.length ≤ 62 * i)
      ⟨[], 7, none, none, none, none, rfl, s1, upd_same, (fun _ h => by cases h), Nat.le_refl _⟩ ?_ ?_⟩
    · rintro i σ H2 hi ⟨ds, mx, x4, x5, x6, x7, rfl, g1, g2, g3, g4⟩
      rw [List.length_map] at hi
      have hi' : i < ns.length := by omega
      have hg : ns[i]? = some ns[i] := List.getElem?_eq_getElem hi'
      have ha : atI (ns.map V.int) (0 + (i : Int)) = some (.int ns[i]) := by rw [Int.zero_add]; exact at_map hg
      generalize ns[i] = c at ha
      -- cell, mixed
      refine ⟨_, rfl, _, rfl, a, _, _, _, rfl, rfl, g1.seq hS, ha, .inl ⟨_, rfl, _, rfl, ?_⟩⟩
      dsimp only
      have hc : 0 ≤ (if c < 0 then -c else c) := by split <;> omega
      generalize (if c < 0 then -c else c) = cell at hc
      refine ⟨_, rfl, _, _, rfl, rfl, .inr ⟨by decide, by decide⟩, _, rfl, _, _, rfl, rfl, (by show (0 : Int) < _; decide), _, _, rfl, rfl, _, rfl, _, _, rfl, rfl, .inl ⟨_, rfl, _, _, rfl, rfl, (by show (0 : Int) < _; decide), ?_⟩⟩
      dsimp only
      generalize (mx * 48271 + cell % 1000003 + (0 + (i : Int))) % 65537 = mx2
      -- rest = 0; if cell >= 10 ** 18
      refine ⟨fun σ' H' => ∃ (ds' : List Int) (rest : Int) , 0 ≤ rest ∧ σ' = [some (.ref a), some (.int (many : Int)), some (.ref o), some (.int mx2), some (.int (0 + (i : Int))), some (.int cell), some (.int rest), x7] ∧ Same H H' ∧ H' o = some (.lst (ds'.map V.int)) ∧ Drawn ds' ∧ ds'.length ≤ 62 * i + 2, ?_, ?_⟩
      · refine ⟨_, rfl, _, _, rfl, rfl, ⟨by decide, by decide, by decide⟩, _, _, rfl, rfl, _, rfl, ifd (fun hb => ?_) (fun hb => ?_)⟩
        · exact ⟨_, rfl, ds, cell, hc, rfl, g1, g2, g3, by omega⟩
        · refine ⟨_, rfl, .inl ⟨rfl, _, sql g2⟩, _, rfl, _, _, rfl, rfl, (by show (0 : Int) < _; decide), o, _, _, rfl, rfl, g2, szl (by rw [List.length_map]; omega), ?_⟩
          refine ⟨_, rfl, .inl ⟨rfl, _, sql upd_same⟩, _, rfl, _, _, rfl, rfl, .inr ⟨by decide, by decide⟩, _, _, rfl, rfl, .inl ⟨_, rfl, _, _, rfl, rfl, (by show (0 : Int) < _; decide), _, _, rfl, rfl, (by show (0 : Int) < _; decide), o, _, _, rfl, rfl, upd_same, szl (by rw [List.length_append, List.length_map]; simp only [List.length_cons, List.length_nil]; omega), ?_⟩⟩
          refine ⟨ds ++ [cell % 997, (mx2 * 69621 + 5) % 65521 % 997], 0, Int.le_refl _, rfl, same_put (same_put g1 ho) ho, ?_, drawn_app g3 fun d hd => ?_, by rw [List.length_append]; simp only [List.length_cons, List.length_nil]; omega⟩
          · rw [upd_same, List.map_append, List.append_assoc]
            rfl
          · simp only [List.mem_cons, List.not_mem_nil, or_false] at hd
            rcases hd with rfl | rfl
            · exact ⟨Int.emod_nonneg _ (by decide), Int.emod_lt_of_pos _ (by decide)⟩
            · exact ⟨Int.emod_nonneg _ (by decide), Int.emod_lt_of_pos _ (by decide)⟩
      rintro σ' H' ⟨ds', rest, hr0, rfl, k1, k2, k3, k4⟩
      -- sixty times
      refine ⟨60, rfl, by decide, by decide, for_range (lo := 0) (n := 60) (fun j σ H3 => ∃ (es : List Int) (rest : Int) (x7 : Option V), 0 ≤ rest ∧ σ = [some (.ref a), some (.int (many : Int)), some (.ref o), some (.int mx2), some (.int (0 + (i : Int))), some (.int cell), some (.int rest), x7] ∧ Same H H3 ∧ H3 o = some (.lst (es.map V.int)) ∧ Drawn es ∧ es.length ≤ 62 * i + 2 + j)
        ⟨ds', rest, x7, hr0, rfl, k1, k2, k3, k4⟩ ?_ ?_⟩
      · rintro j σ H3 hj ⟨es, rest, x7, h0, rfl, k1, k2, k3, k4⟩
        refine ⟨_, rfl, _, _, rfl, rfl, _, rfl, ifd (fun hb => ?_) (fun hb => ?_)⟩
        · refine ⟨_, rfl, .inl ⟨rfl, _, sql k2⟩, _, rfl, .inl ⟨_, rfl, _, _, rfl, rfl, (by show (0 : Int) < _; decide), o, _, _, rfl, rfl, k2, szl (by rw [List.length_map]; omega), ?_⟩⟩
          refine ⟨_, rfl, _, _, rfl, rfl, ⟨by decide, by decide⟩, ?_⟩
          refine ⟨es ++ [rest % 997], rest / 997, some (.int (0 + (j : Int))), Int.ediv_nonneg h0 (by decide), rfl, same_put k1 ho, ?_, drawn_app k3 (drawn_one (Int.emod_nonneg _ (by decide)) (Int.emod_lt_of_pos _ (by decide))), by rw [List.length_append]; simp only [List.length_cons, List.length_nil]; omega⟩
          rw [upd_same, List.map_append]
          rfl
        · exact ⟨es, rest, some (.int (0 + (j : Int))), h0, rfl, k1, k2, k3, by omega⟩
      · rintro σ H3 ⟨es, rest, x7, h0, rfl, k1, k2, k3, k4⟩
        exact ⟨es, mx2, _, _, _, _, rfl, k1, k2, k3, by omega⟩
    · rintro σ H2 ⟨ds, mx, x4, x5, x6, x7, rfl, g1, g2, g3, g4⟩
      have hl0 : ds.length ≤ 4000 := by
        simp only [List.length_map] at g4
        omega
      refine ⟨_, rfl, (many : Int), rfl, by omega, by omega, for_range (lo := 0) (n := (many : Int).toNat) (fun i σ H3 => ∃ (es : List Int) (mx : Int) (x4 : Option V), σ = [some (.ref a), some (.int (many : Int)), some (.ref o), some (.int mx), x4, x5, x6, x7] ∧ Same H H3 ∧ H3 o = some (.lst (es.map V.int)) ∧ Drawn es ∧ es.length = ds.length + i)
        ⟨ds, mx, x4, rfl, g1, g2, g3, rfl⟩ ?_ ?_⟩
      · rintro i σ H3 hi ⟨es, mx, x4, rfl, k1, k2, k3, k4⟩
        refine ⟨_, rfl, _, _, rfl, rfl, .inr ⟨by decide, by decide⟩, _, rfl, _, _, rfl, rfl, _, _, rfl, rfl, .inl ⟨_, rfl, _, _, rfl, rfl, (by show (0 : Int) < _; decide), ?_⟩⟩
        refine ⟨_, rfl, .inl ⟨rfl, _, sql k2⟩, _, rfl, .inl ⟨_, rfl, _, _, rfl, rfl, (by show (0 : Int) < _; decide), o, _, _, rfl, rfl, k2, szl (by rw [List.length_map]; omega), ?_⟩⟩
        refine ⟨es ++ [(mx * 16807 + (0 + (i : Int)) + 1) % 65537 % 997], (mx * 16807 + (0 + (i : Int)) + 1) % 65537, some (.int (0 + (i : Int))), rfl, same_put k1 ho, ?_, drawn_app k3 (drawn_one (Int.emod_nonneg _ (by decide)) (Int.emod_lt_of_pos _ (by decide))), by rw [List.length_append, k4]; simp only [List.length_cons, List.length_nil]; omega⟩
        rw [upd_same, List.map_append]
        rfl
      · rintro σ H3 ⟨es, mx, x4, rfl, k1, k2, k3, k4⟩
        refine ⟨_, rfl, _, rfl, _, rfl, o, _, rfl, sql k2, fun p hp => ?_⟩
        refine q p _ (es.take many) (k1.free hp) (k1.trans (same_upd hp)) ?_ (drawn_take _ k3) (by rw [List.length_take]; omega)
        rw [upd_same, cut0n, List.map_take]
end
/-! the two sums -/
def sumStep (s : Int × Int) (b : Int) : Int × Int := ((s.1 + b + 1) % 65521, (s.2 + (s.1 + b + 1) % 65521) % 65521)
def sums (s : Int × Int) (bs : List Int) : Int × Int := bs.foldl sumStep s
theorem sums_more {s : Int × Int} {bs : List Int} {i : Nat} {b : Int} (h : bs[i]? = some b) : sums s (bs.take (i + 1)) = sumStep (sums s (bs.take i)) b := by
  unfold sums
  rw [take_more h, List.foldl_append]
  rfl
theorem sums_app (s : Int × Int) (bs cs : List Int) : sums s (bs ++ cs) = sums (sums s bs) cs := List.foldl_append
def sp_checksum (K : PySem.W.Frag) : Sp := fun vs H Q _ => ∃ (a t : Addr) (bs : List Int) (x y : Int), vs = [.ref a, .ref t] ∧ SqL K H a (bs.map V.int) ∧ SqT K H t [.int x, .int y] ∧ ∀ p H', H p = none → Same H H' → H' p = some (.tup [.int (sums (x, y) bs).1, .int (sums (x, y) bs).2]) → Q (.ref p) H'
section
variable {P : Program} {w : World} {K : PySem.W.Frag} {mg : Str → Option Value} {base : Heap}
theorem ok_checksum (T : TX K mg) : FnOk P w K mg base CX0 1 T.a_checksum T.d_checksum ["row", "start"] (sp_checksum K) := by
  refine okD T.FD_checksum sc_checksum (fun vs H Q E h => ?_) (fun cdv A outer s H vs Q E hr h => ?_)
  · obtain ⟨a, t, bs, x, y, rfl, _⟩ := h
    rfl
  · obtain ⟨a, t, bs, x, y, rfl, hS, hT, q⟩ := h
    refine ⟨_, (pss_cons (ps_asg (pv 1) (pg_tup (by rfl) (pgs_cons (pg_name (i := 2) sc_checksum.nd rfl (Or.inl rfl)) (pgs_cons (pg_name (i := 3) sc_checksum.nd rfl (Or.inl rfl)) pgs_nil))))
      (pss_cons (ps_for PassesOwn.never rfl (pi_list (pv 0)) (pg_name (i := 4) sc_checksum.nd rfl (Or.inl rfl))
        (pss_cons (ps_set (i := 2) sc_checksum.nd rfl (Or.inl rfl) (pe_op op_mod (pe_op op_add (pe_op op_add (pv 2) (pv 4)) pe_int) (pe_glob (v := .int 65521) (by rfl) T.c_MODULUS ⟨_, rfl⟩)))
        (pss_one (ps_set (i := 3) sc_checksum.nd rfl (Or.inl rfl) (pe_op op_mod (pe_op op_add (pv 3) (pv 2)) (pe_glob (v := .int 65521) (by rfl) T.c_MODULUS ⟨_, rfl⟩))))))
      (pss_one (ps_ret (pe_tup (pa_cons (pv 2) (pa_cons (pv 3) pa_nil))))))), ?_⟩
    refine ⟨_, rfl, t, _, rfl, hT, rfl, .int x, [.int y], rfl, .int y, [], rfl, rfl, ?_⟩
    refine ⟨_, rfl, a, rfl, ⟨_, hS⟩, for_list (K := K) (a := a) (xs := bs.map V.int) (fun i σ H2 => H = H2 ∧ ∃ x4, σ = [some (.ref a), some (.ref t), some (.int (sums (x, y) (bs.take i)).1), some (.int (sums (x, y) (bs.take i)).2), x4])
      ⟨rfl, none, rfl⟩ (fun i σ H2 _ ⟨e, _⟩ => by rw [← e]; exact hS) ?_ ?_⟩
    · rintro i v σ _ hx ⟨rfl, x4, rfl⟩
      obtain ⟨b, hb, rfl⟩ := map_at hx
      have hm := sums_more (s := (x, y)) hb
      refine ⟨_, rfl, _, rfl, _, _, rfl, rfl, _, _, rfl, rfl, _, _, rfl, rfl, (by show (0 : Int) < _; decide), ?_⟩
      refine ⟨_, rfl, _, rfl, _, _, rfl, rfl, _, _, rfl, rfl, (by show (0 : Int) < _; decide), ?_⟩
      refine ⟨rfl, some (.int b), ?_⟩
      rw [hm]
      rfl
    · rintro σ _ ⟨rfl, x4, rfl⟩
      rw [List.length_map, List.take_length]
      exact ⟨_, rfl, _, rfl, (by show 2 ≤ sizeLine; decide), fun p hp => q p _ hp (same_upd hp) upd_same⟩
end
/-! two changed bytes change the sums -/
def sA : List Int → Int
  | [] => 0
  | b :: bs => b + 1 + sA bs
def sB : List Int → Int
  | [] => 0
  | b :: bs => ((bs.length : Int) + 1) * (b + 1) + sB bs
/-- the same rest by 65521 -/
def Cg (a b : Int) : Prop := ∃ k : Int, a = b + 65521 * k
theorem Cg.refl (a : Int) : Cg a a := ⟨0, by omega⟩
theorem Cg.symm {a b : Int} (h : Cg a b) : Cg b a := by
  obtain ⟨k, e⟩ := h
  exact ⟨-k, by omega⟩
theorem Cg.trans {a b c : Int} (h : Cg a b) (g : Cg b c) : Cg a c := by
  obtain ⟨k, e⟩ := h
  obtain ⟨l, f⟩ := g
  exact ⟨k + l, by omega⟩
theorem cg_mod (a : Int) : Cg (a % 65521) a := ⟨-(a / 65521), by omega⟩
theorem Cg.add {a b c d : Int} (h : Cg a b) (g : Cg c d) : Cg (a + c) (b + d) := by
  obtain ⟨k, e⟩ := h
  obtain ⟨l, f⟩ := g
  exact ⟨k + l, by omega⟩
theorem Cg.mul (n : Int) {a b : Int} (h : Cg a b) : Cg (n * a) (n * b) := by
  obtain ⟨k, e⟩ := h
  exact ⟨n * k, by rw [e, Int.mul_add, Int.mul_left_comm]⟩
theorem sums_cg : ∀ (bs : List Int) (x y : Int), Cg (sums (x, y) bs).1 (x + sA bs) ∧ Cg (sums (x, y) bs).2 (y + (bs.length : Int) * x + sB bs)
  | [], x, y => ⟨by rw [sA, Int.add_zero]; exact .refl _, by
      rw [sB]
      show Cg y (y + (0 : Nat) * x + 0)
      have : y + ((0 : Nat) : Int) * x + 0 = y := by rw [Int.natCast_zero, Int.zero_mul]; omega
      rw [this]
      exact .refl _⟩
  | b :: bs, x, y => by
    have ih := sums_cg bs ((x + b + 1) % 65521) ((y + (x + b + 1) % 65521) % 65521)
    have c1 := cg_mod (x + b + 1)
    have c2 := (cg_mod (y + (x + b + 1) % 65521)).trans ((Cg.refl y).add c1)
    have e : sums (x, y) (b :: bs) = sums ((x + b + 1) % 65521, (y + (x + b + 1) % 65521) % 65521) bs := rfl
    rw [e]
    refine ⟨ih.1.trans ?_, ih.2.trans ?_⟩
    · have h := c1.add (.refl (sA bs))
      have q : x + b + 1 + sA bs = x + sA (b :: bs) := by rw [sA]; omega
      rw [q] at h
      exact h
    · have h := (c2.add (c1.mul (bs.length : Int))).add (.refl (sB bs))
      have q : y + (x + b + 1) + (bs.length : Int) * (x + b + 1) + sB bs = y + ((b :: bs).length : Int) * x + sB (b :: bs) := by
        rw [sB, List.length_cons, Int.natCast_add, Int.add_assoc x b 1, Int.mul_add, Int.add_mul, Int.add_mul]
        simp only [Int.natCast_one, Int.one_mul]
        omega
      rw [q] at h
      exact h
theorem sA_set : ∀ {bs : List Int} {i : Nat} {r : Int} (u : Int), bs[i]? = some r → sA (bs.set i u) = sA bs + (u - r)
  | [], i, r, u, h => by simp at h
  | b :: bs, 0, r, u, h => by
    have e : b = r := Option.some.inj h
    show u + 1 + sA bs = b + 1 + sA bs + (u - r)
    omega
  | b :: bs, i + 1, r, u, h => by
    have ih := sA_set (bs := bs) (i := i) u (by simpa using h)
    show b + 1 + sA (bs.set i u) = b + 1 + sA bs + (u - r)
    omega
theorem sB_set : ∀ {bs : List Int} {i : Nat} {r : Int} (u : Int), bs[i]? = some r → sB (bs.set i u) = sB bs + ((bs.length : Int) - i) * (u - r)
  | [], i, r, u, h => by simp at h
  | b :: bs, 0, r, u, h => by
    have e : b = r := Option.some.inj h
    show ((bs.length : Int) + 1) * (u + 1) + sB bs = ((bs.length : Int) + 1) * (b + 1) + sB bs + (((b :: bs).length : Int) - (0 : Nat)) * (u - r)
    rw [List.length_cons, Int.natCast_add, ← e]
    have q : ((bs.length : Int) + ((1 : Nat) : Int) - ((0 : Nat) : Int)) = (bs.length : Int) + 1 := by omega
    rw [q, Int.mul_sub, Int.mul_add, Int.mul_add]
    omega
  | b :: bs, i + 1, r, u, h => by
    have ih := sB_set (bs := bs) (i := i) u (by simpa using h)
    show (((bs.set i u).length : Int) + 1) * (b + 1) + sB (bs.set i u) = ((bs.length : Int) + 1) * (b + 1) + sB bs + (((b :: bs).length : Int) - ((i + 1 : Nat) : Int)) * (u - r)
    have q : (((b :: bs).length : Int) - ((i + 1 : Nat) : Int)) = (bs.length : Int) - i := by rw [List.length_cons]; omega
    rw [q, ih, List.length_set]
    omega
theorem cop : ∀ d : Nat, d < 256 → d ≠ 0 → Nat.Coprime 65521 d := by
  have h : (List.range 256).all (fun d => d == 0 || Nat.gcd 65521 d == 1) = true := by decide +kernel
  intro d hd h0
  have := List.all_eq_true.mp h d (List.mem_range.mpr hd)
  simp only [Bool.or_eq_true, beq_iff_eq] at this
  exact this.resolve_left h0
/-- 65521 divides no product of a small number and one below it -/
theorem no_prod {a d k : Int} (h : a * d = 65521 * k) (ha : a.natAbs < 65521) (hd : d.natAbs < 256) : a = 0 ∨ d = 0 := by
  by_cases h0 : d = 0
  · exact .inr h0
  · left
    have e : a.natAbs * d.natAbs = 65521 * k.natAbs := by
      rw [← Int.natAbs_mul, h, Int.natAbs_mul]
      rfl
    have dv : 65521 ∣ a.natAbs * d.natAbs := ⟨k.natAbs, e⟩
    have c := cop d.natAbs hd (by omega)
    have := c.dvd_of_dvd_mul_right dv
    have z := Nat.eq_zero_of_dvd_of_lt this ha
    omega
theorem sums_pos (s : Int × Int) : ∀ {bs : List Int}, bs ≠ [] → 0 ≤ (sums s bs).1 ∧ (sums s bs).1 < 65521 ∧ 0 ≤ (sums s bs).2 ∧ (sums s bs).2 < 65521 := by
  intro bs h
  obtain ⟨cs, b, rfl⟩ : ∃ cs b, bs = cs ++ [b] := ⟨bs.dropLast, bs.getLast h, (List.dropLast_concat_getLast h).symm⟩
  rw [sums_app]
  show 0 ≤ (sumStep (sums s cs) b).1 ∧ _ ∧ 0 ≤ (sumStep (sums s cs) b).2 ∧ _
  unfold sumStep
  exact ⟨Int.emod_nonneg _ (by decide), Int.emod_lt_of_pos _ (by decide), Int.emod_nonneg _ (by decide), Int.emod_lt_of_pos _ (by decide)⟩
/-- THE PROMISE: one or two changed places change the sums -/
theorem two_changed {bs : List Int} {i j : Nat} {u v r t : Int} (x y : Int) (hl : bs.length ≤ 65000) (hi : bs[i]? = some r) (hj : (bs.set i u)[j]? = some t) (hu : 0 ≤ u ∧ u < 256) (hv : 0 ≤ v ∧ v < 256) (hb : ∀ b ∈ bs, 0 ≤ b ∧ b < 256)
    (h : sums (x, y) ((bs.set i u).set j v) = sums (x, y) bs) : (bs.set i u).set j v = bs := by
  have li : i < bs.length := (List.getElem?_eq_some_iff.mp hi).1
  have lj : j < bs.length := by have := (List.getElem?_eq_some_iff.mp hj).1; rwa [List.length_set] at this
  have hr := hb r (List.mem_of_getElem? hi)
  have ht : 0 ≤ t ∧ t < 256 := by
    rcases List.mem_or_eq_of_mem_set (List.mem_of_getElem? hj) with q | q
    · exact hb t q
    · rw [q]; exact hu
  have c := sums_cg ((bs.set i u).set j v) x y
  have c0 := sums_cg bs x y
  rw [h] at c
  have k1 := (c0.1.symm.trans c.1)
  have k2 := (c0.2.symm.trans c.2)
  rw [sA_set v hj, sA_set u hi] at k1
  rw [sB_set v hj, sB_set u hi, List.length_set, List.length_set] at k2
  obtain ⟨m1, e1⟩ := k1
  obtain ⟨m2, e2⟩ := k2
  have d12 : (u - r) + (v - t) = 0 := by omega
  by_cases hij : i = j
  · subst hij
    rw [List.getElem?_set_self (by omega)] at hj
    have e : u = t := Option.some.inj hj
    have : v = r := by omega
    rw [List.set_set, this]
    exact set_self hi
  · have e : ((j : Int) - i) * (u - r) = 65521 * (-m2) := by
      have hv' : v - t = -(u - r) := by omega
      rw [hv', Int.mul_neg] at e2
      have q : ((j : Int) - i) * (u - r) = ((bs.length : Int) - i) * (u - r) - ((bs.length : Int) - j) * (u - r) := by
        rw [← Int.sub_mul]
        congr 1
        omega
      rw [q]
      omega
    rcases no_prod e (by omega) (by omega) with z | z
    · omega
    · have hu' : u = r := by omega
      subst hu'
      rw [set_self hi] at hj ⊢
      have : v = t := by omega
      subst this
      exact set_self hj
def Bytes (bs : List Int) : Prop := ∀ b ∈ bs, 0 ≤ b ∧ b < 256
def sp_changed (K : PySem.W.Frag) : Sp := fun vs H Q _ => ∃ (a d : Addr) (bs ds : List Int), vs = [.ref a, .ref d] ∧ SqL K H a (bs.map V.int) ∧ SqL K H d (ds.map V.int) ∧ bs ≠ [] ∧ bs.length ≤ 60000 ∧ Bytes bs ∧ Drawn ds ∧ ds.length = 7 ∧
  ∀ (p : Addr) (H' : Hp) (i j : Nat) (u v r t : Int), H p = none → Same H H' → H' p = some (.lst (((bs.set i u).set j v).map V.int)) → bs[i]? = some r → (bs.set i u)[j]? = some t → 0 ≤ u ∧ u < 256 → 0 ≤ v ∧ v < 256 → Q (.ref p) H'
def sp_law (K : PySem.W.Frag) : Sp := fun vs H Q _ => ∃ (a : Addr) (ns : List Int), vs = [.ref a] ∧ SqL K H a (ns.map V.int) ∧ ns.length ≤ 63 ∧ ∀ H', Q (.bl true) H'
section
variable {P : Program} {w : World} {K : PySem.W.Frag} {mg : Str → Option Value} {base : Heap}
theorem ok__law_changed (T : TX K mg) : FnOk P w K mg base CX0 1 T.a__law_changed T.d__law_changed ["row", "draws"] (sp_changed K) := by
  refine T.F__law_changed.ok sc__law_changed (fun vs H Q E h => ?_) (fun cdv A outer s H vs Q E hr h => ?_)
  · obtain ⟨a, d, bs, ds, rfl, _⟩ := h
    rfl
  · obtain ⟨a, d, bs, ds, rfl, hS, hD, hne, hlen, hb, hd, hdl, q⟩ := h
    refine ⟨_, (pss_cons (ps_set (i := 2) sc__law_changed.nd rfl (Or.inl rfl) (pe_callTy call_list_of (by rfl) T.n_list (by decide +kernel) (pa_cons (pv 0) pa_nil)))
      (pss_cons (ps_set (i := 3) sc__law_changed.nd rfl (Or.inl rfl) (pe_op op_add (pe_op op_mul (pe_ix ix_list (pv 1) pe_int (fun _ _ => rfl)) pe_int) (pe_ix ix_list (pv 1) pe_int (fun _ _ => rfl))))
      (pss_cons (ps_set (i := 4) sc__law_changed.nd rfl (Or.inl rfl) (pe_op op_add (pe_op op_mul (pe_ix ix_list (pv 1) pe_int (fun _ _ => rfl)) pe_int) (pe_ix ix_list (pv 1) pe_int (fun _ _ => rfl))))
      (pss_cons (ps_asg (pe_op op_mod (pe_callTy call_int1 (by rfl) T.n_int (by decide +kernel) (pa_cons (pe_ix ix_list (pv 1) pe_int (fun _ _ => rfl)) pa_nil)) pe_int) (pg_sub (pv 2) (pe_op op_mod (pv 3) (pe_callB call_len_seq (by rfl) T.n_len PySem.boot_len (pa_cons (pv 0) pa_nil))) set_list))
      (pss_cons (ps_if (pt_cmpR op_eq (pe_op op_mod (pe_ix ix_list (pv 1) pe_int (fun _ _ => rfl)) pe_int) pe_int (nomark _)) (pss_one (ps_ret (pv 2))) pss_nil)
      (pss_cons (ps_asg (pe_op op_mod (pe_callTy call_int1 (by rfl) T.n_int (by decide +kernel) (pa_cons (pe_ix ix_list (pv 1) pe_int (fun _ _ => rfl)) pa_nil)) pe_int) (pg_sub (pv 2) (pe_op op_mod (pv 4) (pe_callB call_len_seq (by rfl) T.n_len PySem.boot_len (pa_cons (pv 0) pa_nil))) set_list))
      (pss_cons (ps_if (pt_cmpR op_eq (pe_op op_mod (pe_ix ix_list (pv 1) pe_int (fun _ _ => rfl)) pe_int) pe_int (nomark _)) (pss_cons (ps_set (i := 2) sc__law_changed.nd rfl (Or.inl rfl) (pe_callTy call_list_of (by rfl) T.n_list (by decide +kernel) (pa_cons (pv 0) pa_nil)))
        (pss_cons (ps_set (i := 5) sc__law_changed.nd rfl (Or.inl rfl) (pe_op op_add pe_int (pe_op op_mod (pe_callTy call_int1 (by rfl) T.n_int (by decide +kernel) (pa_cons (pe_ix ix_list (pv 1) pe_int (fun _ _ => rfl)) pa_nil)) pe_int)))
        (pss_one (ps_if (PW.pt (pw_and (pt_cmpR op_lt (pe_op op_add (pe_ix ix_list (pv 2) (pe_op op_mod (pv 3) (pe_callB call_len_seq (by rfl) T.n_len PySem.boot_len (pa_cons (pv 0) pa_nil))) (fun _ _ => rfl)) (pv 5)) pe_int (nomark _)) (pw_and1 (pt_cmpR op_ge (pe_ix ix_list (pv 2) (pe_op op_mod (pv 4) (pe_callB call_len_seq (by rfl) T.n_len PySem.boot_len (pa_cons (pv 0) pa_nil))) (fun _ _ => rfl)) (pv 5) (nomark _))))) (pss_cons (ps_asg (pe_op op_add (pe_ix ix_list (pv 2) (pe_op op_mod (pv 3) (pe_callB call_len_seq (by rfl) T.n_len PySem.boot_len (pa_cons (pv 0) pa_nil))) (fun _ _ => rfl)) (pv 5)) (pg_sub (pv 2) (pe_op op_mod (pv 3) (pe_callB call_len_seq (by rfl) T.n_len PySem.boot_len (pa_cons (pv 0) pa_nil))) set_list))
          (pss_one (ps_asg (pe_op op_sub (pe_ix ix_list (pv 2) (pe_op op_mod (pv 4) (pe_callB call_len_seq (by rfl) T.n_len PySem.boot_len (pa_cons (pv 0) pa_nil))) (fun _ _ => rfl)) (pv 5)) (pg_sub (pv 2) (pe_op op_mod (pv 4) (pe_callB call_len_seq (by rfl) T.n_len PySem.boot_len (pa_cons (pv 0) pa_nil))) set_list)))) pss_nil)))) pss_nil)
      (pss_one (ps_ret (pv 2)))))))))), ?_⟩
    have hat : ∀ k : Nat, k < 7 → ∃ d, ds[k]? = some d ∧ 0 ≤ d ∧ d < 997 := fun k hk => by
      have hk' : k < ds.length := by omega
      exact ⟨ds[k], List.getElem?_eq_getElem hk', hd _ (List.getElem_mem hk')⟩
    obtain ⟨d0, hd0, a0, b0⟩ := hat 0 (by decide)
    obtain ⟨d1, hd1, a1, b1⟩ := hat 1 (by decide)
    obtain ⟨d2, hd2, a2, b2⟩ := hat 2 (by decide)
    obtain ⟨d3, hd3, a3, b3⟩ := hat 3 (by decide)
    obtain ⟨d4, hd4, a4, b4⟩ := hat 4 (by decide)
    obtain ⟨d5, hd5, a5, b5⟩ := hat 5 (by decide)
    obtain ⟨d6, hd6, a6, b6⟩ := hat 6 (by decide)
    have gt : ∀ {k : Nat} {d : Int}, ds[k]? = some d → atI (ds.map V.int) (k : Int) = some (.int d) := fun h => at_map h
    have hn0 : 0 < bs.length := List.length_pos_iff.mpr hne
    -- changed = list(row); one; two
    refine ⟨_, rfl, a, _, rfl, .inl hS, fun p hp => ?_⟩
    have s1 := same_upd (o := .lst (bs.map V.int)) hp
    have e1 : (upd H p (.lst (bs.map V.int))) p = some (.lst (bs.map V.int)) := upd_same
    generalize upd H p (.lst (bs.map V.int)) = H1 at s1 e1
    have hD1 := s1.seq hD
    have hS1 := s1.seq hS
    refine ⟨_, rfl, d, _, 0, _, rfl, rfl, hD1, gt hd0, _, _, rfl, rfl, .inr ⟨by decide, by decide⟩, _, rfl, d, _, 1, _, rfl, rfl, hD1, gt hd1, _, _, rfl, rfl, ?_⟩
    refine ⟨_, rfl, d, _, 2, _, rfl, rfl, hD1, gt hd2, _, _, rfl, rfl, .inr ⟨by decide, by decide⟩, _, rfl, d, _, 3, _, rfl, rfl, hD1, gt hd3, _, _, rfl, rfl, ?_⟩
    dsimp only
    -- the two places
    obtain ⟨i, hi, hil⟩ : ∃ i : Nat, (d0 * 997 + d1) % (bs.length : Int) = (i : Int) ∧ i < bs.length := by
      have h1 := Int.emod_nonneg (d0 * 997 + d1) (show (bs.length : Int) ≠ 0 by omega)
      have h2 := Int.emod_lt_of_pos (d0 * 997 + d1) (show (0 : Int) < bs.length by omega)
      exact ⟨((d0 * 997 + d1) % (bs.length : Int)).toNat, by omega, by omega⟩
    obtain ⟨j, hj, hjl⟩ : ∃ j : Nat, (d2 * 997 + d3) % (bs.length : Int) = (j : Int) ∧ j < bs.length := by
      have h1 := Int.emod_nonneg (d2 * 997 + d3) (show (bs.length : Int) ≠ 0 by omega)
      have h2 := Int.emod_lt_of_pos (d2 * 997 + d3) (show (0 : Int) < bs.length by omega)
      exact ⟨((d2 * 997 + d3) % (bs.length : Int)).toNat, by omega, by omega⟩
    generalize d0 * 997 + d1 = one at hi
    generalize d2 * 997 + d3 = two at hj
    have hml : (bs.map V.int).length = bs.length := List.length_map _
    obtain ⟨r, hri⟩ : ∃ r, bs[i]? = some r := ⟨_, List.getElem?_eq_getElem hil⟩
    have hu : 0 ≤ d4 % 256 ∧ d4 % 256 < 256 := ⟨Int.emod_nonneg _ (by decide), Int.emod_lt_of_pos _ (by decide)⟩
    have hv : 0 ≤ d6 % 256 ∧ d6 % 256 < 256 := ⟨Int.emod_nonneg _ (by decide), Int.emod_lt_of_pos _ (by decide)⟩
    -- changed[one] = ..
    refine ⟨_, rfl, d, _, 4, _, rfl, rfl, hD1, gt hd4, .inl ⟨_, rfl, _, _, rfl, rfl, (by show (0 : Int) < _; decide), _, rfl, _, rfl, _, rfl, a, _, rfl, .inl hS1, _, _, rfl, rfl, (by rw [hml]; show (0 : Int) < _; omega), p, _, _, i, rfl, rfl, e1, ixn (by rw [hml]; exact hi) (by rw [hml]; exact hil), ?_⟩⟩
    have e2 : (upd H1 p (.lst ((bs.map V.int).set i (.int (d4 % 256))))) p = some (.lst ((bs.set i (d4 % 256)).map V.int)) := by rw [upd_same]; simp only [List.map_set]
    have s2 : Same H (upd H1 p (.lst ((bs.map V.int).set i (.int (d4 % 256))))) := same_put s1 hp
    generalize upd H1 p (.lst ((bs.map V.int).set i (.int (d4 % 256)))) = H2 at e2 s2
    have hD2 := s2.seq hD
    have hS2 := s2.seq hS
    have hml2 : ((bs.set i (d4 % 256)).map V.int).length = bs.length := by rw [List.length_map, List.length_set]
    have hjt : ∃ t, (bs.set i (d4 % 256))[j]? = some t := ⟨_, List.getElem?_eq_getElem (by rw [List.length_set]; exact hjl)⟩
    obtain ⟨t, hjt⟩ := hjt
    refine ⟨_, rfl, d, _, 5, _, rfl, rfl, hD2, gt hd5, _, _, rfl, rfl, (by show (0 : Int) < _; decide), rfl, _, rfl, ifd (fun hc => ?_) (fun hc => ?_)⟩
    · -- one place alone
      refine ⟨_, rfl, q p H2 i i (d4 % 256) (d4 % 256) r (d4 % 256) hp s2 (by rw [List.set_set]; exact e2) hri (by rw [List.getElem?_set_self hil]) hu hu⟩
    · refine ⟨_, rfl, d, _, 6, _, rfl, rfl, hD2, gt hd6, .inl ⟨_, rfl, _, _, rfl, rfl, (by show (0 : Int) < _; decide), _, rfl, _, rfl, _, rfl, a, _, rfl, .inl hS2, _, _, rfl, rfl, (by rw [hml]; show (0 : Int) < _; omega), p, _, _, j, rfl, rfl, e2, ixn (by rw [hml]; exact hj) (by rw [hml2]; exact hjl), ?_⟩⟩
      have e3 : (upd H2 p (.lst (((bs.set i (d4 % 256)).map V.int).set j (.int (d6 % 256))))) p = some (.lst (((bs.set i (d4 % 256)).set j (d6 % 256)).map V.int)) := by rw [upd_same]; simp only [List.map_set]
      have s3 : Same H (upd H2 p (.lst (((bs.set i (d4 % 256)).map V.int).set j (.int (d6 % 256))))) := same_put s2 hp
      generalize upd H2 p (.lst (((bs.set i (d4 % 256)).map V.int).set j (.int (d6 % 256)))) = H3 at e3 s3
      have hD3 := s3.seq hD
      have hS3 := s3.seq hS
      refine ⟨_, rfl, d, _, 5, _, rfl, rfl, hD3, gt hd5, _, _, rfl, rfl, (by show (0 : Int) < _; decide), rfl, _, rfl, ifd (fun hc2 => ?_) (fun hc2 => ?_)⟩
      · -- a step up and a step down
        refine ⟨_, rfl, a, _, rfl, .inl hS3, fun p2 hp2 => ?_⟩
        have hp2' := s3.free hp2
        have s4 := s3.trans (same_upd (o := .lst (bs.map V.int)) hp2)
        have e4 : (upd H3 p2 (.lst (bs.map V.int))) p2 = some (.lst (bs.map V.int)) := upd_same
        generalize upd H3 p2 (.lst (bs.map V.int)) = H4 at s4 e4
        have hD4 := s4.seq hD
        have hS4 := s4.seq hS
        refine ⟨_, rfl, d, _, 4, _, rfl, rfl, hD4, gt hd4, .inl ⟨_, rfl, _, _, rfl, rfl, (by show (0 : Int) < _; decide), _, _, rfl, rfl, ?_⟩⟩
        dsimp only
        have hst : 1 ≤ 1 + d4 % 255 ∧ 1 + d4 % 255 < 256 := by omega
        generalize 1 + d4 % 255 = st at hst
        have gi : atI (bs.map V.int) (one % ((bs.map V.int).length : Int)) = some (.int r) := by rw [hml, hi]; exact at_map hri
        obtain ⟨rj, hrj⟩ : ∃ rj, bs[j]? = some rj := ⟨_, List.getElem?_eq_getElem hjl⟩
        have gj : atI (bs.map V.int) (two % ((bs.map V.int).length : Int)) = some (.int rj) := by rw [hml, hj]; exact at_map hrj
        have hr := hb r (List.mem_of_getElem? hri)
        have hrj' := hb rj (List.mem_of_getElem? hrj)
        have pos : (0 : Int) < ((bs.map V.int).length : Int) := by rw [hml]; omega
        refine ⟨_, rfl, _, rfl, _, rfl, a, _, rfl, .inl hS4, _, _, rfl, rfl, pos, p2, _, _, _, rfl, rfl, sql e4, gi, _, rfl, _, _, rfl, rfl, _, _, rfl, rfl, _, rfl, ifd (fun hc3 => ?_) (fun hc3 => ?_)⟩
        · refine ⟨_, rfl, _, rfl, _, rfl, a, _, rfl, .inl hS4, _, _, rfl, rfl, pos, p2, _, _, _, rfl, rfl, sql e4, gj, _, rfl, _, _, rfl, rfl, _, rfl, ifd (fun hc4 => ?_) (fun hc4 => ?_)⟩
          · refine ⟨_, rfl, _, rfl, _, rfl, a, _, rfl, .inl hS4, _, _, rfl, rfl, pos, p2, _, _, _, rfl, rfl, sql e4, gi, _, rfl, _, _, rfl, rfl, ?_⟩
            refine ⟨_, rfl, _, rfl, _, rfl, a, _, rfl, .inl hS4, _, _, rfl, rfl, pos, p2, _, _, i, rfl, rfl, e4, ixn (by rw [hml]; exact hi) (by rw [hml]; exact hil), ?_⟩
            have e5 : (upd H4 p2 (.lst ((bs.map V.int).set i (.int (r + st))))) p2 = some (.lst ((bs.set i (r + st)).map V.int)) := by rw [upd_same]; simp only [List.map_set]
            have s5 : Same H (upd H4 p2 (.lst ((bs.map V.int).set i (.int (r + st))))) := same_put s4 hp2'
            generalize upd H4 p2 (.lst ((bs.map V.int).set i (.int (r + st)))) = H5 at e5 s5
            have hS5 := s5.seq hS
            have hml5 : ((bs.set i (r + st)).map V.int).length = bs.length := by rw [List.length_map, List.length_set]
            obtain ⟨t5, ht5⟩ : ∃ t5, (bs.set i (r + st))[j]? = some t5 := ⟨_, List.getElem?_eq_getElem (by rw [List.length_set]; exact hjl)⟩
            have gj5 : atI ((bs.set i (r + st)).map V.int) (two % ((bs.map V.int).length : Int)) = some (.int t5) := by rw [hml, hj]; exact at_map ht5
            have ht5r : 0 ≤ t5 - st ∧ t5 - st < 256 := by
              by_cases hij : i = j
              · subst hij
                rw [List.getElem?_set_self hil] at ht5
                have := Option.some.inj ht5
                omega
              · rw [List.getElem?_set_ne hij, hrj] at ht5
                have := Option.some.inj ht5
                omega
            refine ⟨_, rfl, _, rfl, _, rfl, a, _, rfl, .inl hS5, _, _, rfl, rfl, pos, p2, _, _, _, rfl, rfl, sql e5, gj5, _, rfl, _, _, rfl, rfl, ?_⟩
            refine ⟨_, rfl, _, rfl, _, rfl, a, _, rfl, .inl hS5, _, _, rfl, rfl, pos, p2, _, _, j, rfl, rfl, e5, ixn (by rw [hml]; exact hj) (by rw [hml5]; exact hjl), ?_⟩
            refine ⟨_, rfl, q p2 _ i j (r + st) (t5 - st) r t5 hp2' (same_put s5 hp2') (by rw [upd_same]; simp only [List.map_set]) hri ht5 (by omega) ht5r⟩
          · exact ⟨_, rfl, q p2 _ i i r r r r hp2' s4 (by rw [List.set_set, set_self hri]; exact e4) hri (by rw [set_self hri]; exact hri) hr hr⟩
        · exact ⟨_, rfl, q p2 _ i i r r r r hp2' s4 (by rw [List.set_set, set_self hri]; exact e4) hri (by rw [set_self hri]; exact hri) hr hr⟩
      · exact ⟨_, rfl, q p H3 i j (d4 % 256) (d6 % 256) r t hp s3 e3 hri hjt hu hv⟩
theorem ok_law (T : TX K mg) : FnOk P w K mg base CX0 2 T.a_law T.d_law ["script"] (sp_law K) := by
  refine T.F_law.ok sc_law (fun vs H Q E h => ?_) (fun cdv A outer s H vs Q E hr h => ?_)
  · obtain ⟨a, ns, rfl, _⟩ := h
    rfl
  · obtain ⟨a, ns, rfl, hS, hlen, q⟩ := h
    refine ⟨_, (pss_cons (ps_set (i := 1) sc_law.nd rfl (Or.inl rfl) (pe_call (ok__law_draws T) (hr.mono (by decide)) (by rfl) T.g__law_draws T.F__law_draws.kp T.b__law_draws .nil pass0 (pa_cons (pv 0) (pa_cons pe_int pa_nil))))
      (pss_cons (ps_setLc (i := 2) (own := [("draw", 6)]) (g := gName 6) (tt := tYes) (by rfl) sc_law.nd rfl rfl (sw_true rfl rfl rfl (by decide +kernel)) (pi_list (pe_slice sl_list (pv 1) (po_some pe_int) (po_some (pe_op op_add pe_int (pe_op op_mod (pe_ix ix_list (pv 1) pe_int (fun _ _ => rfl)) pe_int))))) (blkOk_by (own := [("draw", 6)]) (N := ["script", "draws", "row", "expected", "k", "changed", "draw"]) (sc := defScope s_law) (by decide +kernel)) (fun _ _ _ _ _ => pg_name (i := 6) sc_law.nd rfl (Or.inl rfl)) (fun _ _ _ _ _ => pts_nil) (fun _ _ _ _ _ => (pe_op op_mod (pe_callTy call_int1 (by rfl) T.n_int (by decide +kernel) (pa_cons (pv 6) pa_nil)) pe_int)))
      (C8.pss_cut (ps_if (pt_cmpR op_eq (pe_op op_mod (pe_ix ix_list (pv 1) pe_int (fun _ _ => rfl)) pe_int) pe_int (nomark _)) (pss_one (ps_set (i := 2) sc_law.nd rfl (Or.inl rfl) (pe_op op_rep (pv 2) (pe_op op_add pe_int (pe_op op_mod (pe_ix ix_list (pv 1) pe_int (fun _ _ => rfl)) pe_int))))) pss_nil)
      (pss_cons (ps_set (i := 3) sc_law.nd rfl (Or.inl rfl) (pe_call (ok_checksum T) (hr.mono (by decide)) (by rfl) T.g_checksum T.FD_checksum.kp T.bD_checksum_1.choose_spec.2 T.bD_checksum_1.choose_spec.1 pass0 (pa_cons (pv 2) pa_nil)))
      (pss_cons (ps_for PassesOwn.never rfl (pi_range1 (by rfl) T.n_range (pa_cons pe_int pa_nil)) (pg_name (i := 4) sc_law.nd rfl (Or.inl rfl))
        (pss_cons (ps_set (i := 5) sc_law.nd rfl (Or.inl rfl) (pe_call (ok__law_changed T) (hr.mono (by decide)) (by rfl) T.g__law_changed T.F__law_changed.kp T.b__law_changed .nil pass0 (pa_cons (pv 2) (pa_cons (pe_slice sl_list (pv 1) (po_some (pe_op op_add pe_int (pe_op op_mul pe_int (pv 4)))) (po_some (pe_op op_add pe_int (pe_op op_mul pe_int (pv 4))))) pa_nil))))
        (pss_one (ps_if (pt_cmpR op_ne (pe_cmpR (op_eqD hr.units) (pe_call (ok_checksum T) (hr.mono (by decide)) (by rfl) T.g_checksum T.FD_checksum.kp T.bD_checksum_1.choose_spec.2 T.bD_checksum_1.choose_spec.1 pass0 (pa_cons (pv 5) pa_nil)) (pv 3) (nomark _)) (pe_cmpR (op_eqD hr.units) (pv 5) (pv 2) (nomark _)) (nomark _)) (pss_one (ps_ret pe_bl)) pss_nil))))
      (pss_one (ps_ret pe_bl))))))), ?_⟩
    -- the draws
    refine ⟨_, rfl, a, ns, 180, rfl, hS, hlen, by decide, fun pd H1 ds hpd s1 e1 hd hdl => ?_⟩
    have hat : ∀ k : Nat, k < 180 → ∃ d, ds[k]? = some d ∧ 0 ≤ d ∧ d < 997 := fun k hk => by
      have hk' : k < ds.length := by omega
      exact ⟨ds[k], List.getElem?_eq_getElem hk', hd _ (List.getElem_mem hk')⟩
    obtain ⟨d0, hd0, a0, b0⟩ := hat 0 (by decide)
    obtain ⟨d1, hd1, a1, b1⟩ := hat 1 (by decide)
    obtain ⟨d2, hd2, a2, b2⟩ := hat 2 (by decide)
    have gt : ∀ {k : Nat} {d : Int}, ds[k]? = some d → atI (ds.map V.int) (k : Int) = some (.int d) := fun h => at_map h
    -- row
    obtain ⟨j1, hj1⟩ : ∃ j1 : Nat, 81 + d0 % 90 = (j1 : Int) := ⟨(81 + d0 % 90).toNat, by omega⟩
    walk_at "go"
    refine lc_cut (K := K) (((ds.drop 80).take (j1 - 80)).map V.int) (fun v => match v with | .int i => .int (i % 256) | u => u) (fun R h => ?_) ?_ ?_ (fun i x G Q' hx hG h => ?_) (fun o1 H2 ho1 s2 e2 => ?_)
    · rw [← cut_ints ds (i := 80) (a := 80) rfl hj1] at h
      exact ⟨_, rfl, 80, rfl, _, rfl, pd, _, 0, _, rfl, rfl, sql e1, gt hd0, _, _, rfl, rfl, (by show (0 : Int) < _; decide), _, _, rfl, rfl, _, rfl, pd, _, rfl, sql e1, fun p hp => ⟨p, rfl, ⟨_, sql upd_same⟩, h p hp⟩⟩
    · rw [List.length_map, List.length_take]; omega
    · intro x; rfl
    · obtain ⟨z, hz, rfl⟩ := map_at hx
      exact ⟨_, rfl, .inl ⟨_, rfl, _, _, rfl, rfl, (by show (0 : Int) < _; decide), h⟩⟩
    have l1 : 0 < ((ds.drop 80).take (j1 - 80)).length ∧ ((ds.drop 80).take (j1 - 80)).length ≤ 90 := by rw [List.length_take, List.length_drop]; omega
    generalize (ds.drop 80).take (j1 - 80) = w1 at e2 l1
    obtain ⟨bs, hbs, hb, hb0, hbl⟩ : ∃ bs : List Int, bs = w1.map (· % 256) ∧ Bytes bs ∧ 0 < bs.length ∧ bs.length ≤ 90 := ⟨_, rfl, fun b hb => by
        obtain ⟨z, _, rfl⟩ := List.mem_map.mp hb
        exact ⟨Int.emod_nonneg _ (by decide), Int.emod_lt_of_pos _ (by decide)⟩, by rw [List.length_map]; exact l1.1, by rw [List.length_map]; exact l1.2⟩
    have e2' : H2 o1 = some (.lst (bs.map V.int)) := by rw [e2, hbs, List.map_map, List.map_map]; rfl
    have e12 := s2 _ _ e1
    clear e2 l1 hj1 hbs
    -- row, perhaps many times
    refine ⟨fun σ' H' => ∃ (o1 : Addr) (bs : List Int), σ' = [some (.ref a), some (.ref pd), some (.ref o1), none, none, none, none] ∧ Same H2 H' ∧ H' o1 = some (.lst (bs.map V.int)) ∧ Bytes bs ∧ 0 < bs.length ∧ bs.length ≤ 3600, ?_, ?_⟩
    · refine ⟨_, rfl, pd, _, 1, _, rfl, rfl, sql e12, gt hd1, _, _, rfl, rfl, (by show (0 : Int) < _; decide), rfl, _, rfl, ifd (fun hc => ?_) (fun hc => ?_)⟩
      · have h1 : (1 + d2 % 40).toNat ≤ 40 := by omega
        have h0 : 1 ≤ (1 + d2 % 40).toNat := by omega
        refine ⟨_, rfl, _, rfl, pd, _, 2, _, rfl, rfl, sql e12, gt hd2, _, _, rfl, rfl, (by show (0 : Int) < _; decide), _, _, rfl, rfl, o1, _, _, rfl, rfl, e2', by omega, by omega, ?_, fun p hp => ?_⟩
        · rw [List.length_map]
          exact sz (Nat.le_trans (Nat.mul_le_mul hbl h1) (by decide))
        · refine ⟨p, (List.replicate (1 + d2 % 40).toNat bs).flatten, rfl, same_upd hp, by rw [upd_same, rep_ints], fun b hb' => ?_, ?_, ?_⟩
          · obtain ⟨l, hl, hbl'⟩ := List.mem_flatten.mp hb'
            rw [(List.mem_replicate.mp hl).2] at hbl'
            exact hb b hbl'
          · rw [List.length_flatten, List.map_replicate, List.sum_replicate_nat]
            exact Nat.mul_pos h0 hb0
          · rw [List.length_flatten, List.map_replicate, List.sum_replicate_nat]
            exact Nat.le_trans (Nat.mul_le_mul h1 hbl) (by decide)
      · exact ⟨o1, bs, rfl, Same.refl _, e2', hb, hb0, by omega⟩
    rintro σ' H3 ⟨o1, bs, rfl, s3, e3, hb, hb0, hbl⟩
    have e13 := s3 _ _ e12
    -- expected
    refine ⟨_, rfl, o1, T.da_checksum_0, bs, 1, 1, rfl, sql e3, T.dq_checksum_0 _, fun x1 H4 _ s4 ex => ?_⟩
    have e14 := s4 _ _ e13
    have e34 := s4 _ _ e3
    -- ten changes
    refine ⟨10, rfl, by decide, by decide, for_range (lo := 0) (n := 10) (fun i σ H' => ∃ v4 v5, σ = [some (.ref a), some (.ref pd), some (.ref o1), some (.ref x1), v4, v5, none] ∧ Same H4 H')
      ⟨none, none, rfl, Same.refl _⟩ ?_ ?_⟩
    · rintro i σ H5 hi ⟨v4, v5, rfl, s5⟩
      have e15 := s5 _ _ e14
      have e35 := s5 _ _ e34
      refine ⟨_, rfl, _, rfl, _, rfl, _, _, rfl, rfl, .inl ⟨by decide, by decide⟩, _, _, rfl, rfl, _, rfl, _, rfl, _, _, rfl, rfl, .inl ⟨by decide, by decide⟩, _, _, rfl, rfl, _, rfl, pd, _, rfl, sql e15, fun p hp => ?_⟩
      have hcut : cutV (ds.map V.int) (some (3 + 7 * (0 + (i : Int)))) (some (10 + 7 * (0 + (i : Int)))) = ((ds.drop (3 + 7 * i)).take 7).map V.int := by
        rw [cut_ints ds (i := 3 + 7 * i) (j := 10 + 7 * i) (by omega) (by omega)]
        congr 2
        omega
      have s6 := same_upd (o := .lst (cutV (ds.map V.int) (some (3 + 7 * (0 + (i : Int)))) (some (10 + 7 * (0 + (i : Int)))))) hp
      refine ⟨o1, p, bs, (ds.drop (3 + 7 * i)).take 7, rfl, sql (s6 _ _ e35), sql (by rw [← hcut]; exact upd_same), List.length_pos_iff.mp hb0, by omega, hb, fun d h => hd d (List.mem_of_mem_drop (List.mem_of_mem_take h)), by rw [List.length_take, List.length_drop]; omega, fun c H7 i1 j1 u v r t _ s7 e7 hi1 hj1 hu hv => ?_⟩
      have s67 := s6.trans s7
      -- checksum(changed) == expected
      refine ⟨_, rfl, c, T.da_checksum_0, (bs.set i1 u).set j1 v, 1, 1, rfl, sql e7, T.dq_checksum_0 _, fun y1 H8 _ s8 ey => ?_⟩
      have s68 := s67.trans s8
      have ex8 := s68 _ _ (s5 _ _ ex)
      refine ⟨_, rfl, _, _, .tup (sqt ey) (dpa_ints [_, _]), .tup (sqt ex8) (dpa_ints [_, _]), (flat_tints [_, _]).sh (by decide), (flat_tints [_, _]).sh (by decide), ?_⟩
      refine ⟨_, rfl, _, rfl, _, _, dp_ints (sql (s8 _ _ e7)), dp_ints (sql (s68 _ _ e35)), (flat_ints _).sh (by decide), (flat_ints _).sh (by decide), rfl, _, rfl, ifnt ?_ ?_⟩
      · rw [eqv_ints, eqv_tints]
        congr 1
        by_cases heq : (bs.set i1 u).set j1 v = bs
        · rw [heq, decide_eq_true rfl, decide_eq_true rfl]
        · rw [decide_eq_false heq]
          refine decide_eq_false fun hz => heq (two_changed 1 1 (by omega) hi1 hj1 hu hv hb ?_)
          simp only [List.cons.injEq, and_true] at hz
          exact Prod.ext hz.1 hz.2
      · exact ⟨_, _, rfl, (s5.trans s68)⟩
    · rintro σ H5 ⟨v4, v5, rfl, s5⟩
      exact q _
end
theorem all_mk {l : PySem.W.OpenLaw} {w : World} {K : PySem.W.Frag} {h : Heap} {mg : Str → Option Value} {fa : Addr} (X : K.In h) (G : h.Ns mainGlobals mg) (hfa : mg "law" = some (.ref fa))
    {f_checksum : Addr} {od_checksum an_checksum : Option Addr} {sl_checksum : Array (Option Value)} {oc_checksum kV_checksum dc_checksum pm_checksum cd_checksum ct_checksum : Value} {dT_checksum : Addr} {do_checksum : Option Addr} {dc2_checksum : Value} {dn_checksum : Nat} {ds_checksum : Array (Option Value)} {da_checksum_0 : Addr} {tod_checksum_0 : Option Addr} {tn_checksum_0 : Nat} {ts_checksum_0 : Array (Option Value)} {tv_checksum_0 : List Value} {f__law_draws : Addr} {od__law_draws an__law_draws : Option Addr} {sl__law_draws : Array (Option Value)} {oc__law_draws kV__law_draws dc__law_draws pm__law_draws cd__law_draws ct__law_draws : Value} {f__law_changed : Addr} {od__law_changed an__law_changed : Option Addr} {sl__law_changed : Array (Option Value)} {oc__law_changed kV__law_changed dc__law_changed pm__law_changed cd__law_changed ct__law_changed : Value} {f_law : Addr} {od_law an_law : Option Addr} {sl_law : Array (Option Value)} {oc_law kV_law dc_law pm_law cd_law ct_law : Value} {t_MODULUS : Tok}
    (g_checksum : PySem.W.nsIn K mainGlobals "checksum" = some (some (.ref f_checksum)))
    (l_checksum : K.lookup f_checksum = some ⟨oc_checksum, od_checksum, .func (PySem.W.fnOf "checksum" "checksum" (defArgs s_checksum) (defBody s_checksum) (defScope s_checksum) (.ref dT_checksum) kV_checksum dc_checksum pm_checksum an_checksum cd_checksum ct_checksum), sl_checksum⟩)
    (c_checksum : PySem.W.codeIn K cd_checksum "checksum" = true)
    (k_checksum : PySem.W.keepIn K (.ref f_checksum) = true)
    (lT_checksum : K.lookup dT_checksum = some ⟨dc2_checksum, do_checksum, .seq (([.ref da_checksum_0] : List Value).toArray) dn_checksum, ds_checksum⟩)
    (lq_checksum_0 : K.lookup da_checksum_0 = some ⟨.type "tuple", tod_checksum_0, .seq tv_checksum_0.toArray tn_checksum_0, ts_checksum_0⟩)
    (v_checksum_0 : Vals [(.int 1), (.int 1)] tv_checksum_0)
    (g__law_draws : PySem.W.nsIn K mainGlobals "_law_draws" = some (some (.ref f__law_draws)))
    (l__law_draws : K.lookup f__law_draws = some ⟨oc__law_draws, od__law_draws, .func (PySem.W.fnOf "_law_draws" "_law_draws" (defArgs s__law_draws) (defBody s__law_draws) (defScope s__law_draws) .none kV__law_draws dc__law_draws pm__law_draws an__law_draws cd__law_draws ct__law_draws), sl__law_draws⟩)
    (c__law_draws : PySem.W.codeIn K cd__law_draws "_law_draws" = true)
    (k__law_draws : PySem.W.keepIn K (.ref f__law_draws) = true)
    (g__law_changed : PySem.W.nsIn K mainGlobals "_law_changed" = some (some (.ref f__law_changed)))
    (l__law_changed : K.lookup f__law_changed = some ⟨oc__law_changed, od__law_changed, .func (PySem.W.fnOf "_law_changed" "_law_changed" (defArgs s__law_changed) (defBody s__law_changed) (defScope s__law_changed) .none kV__law_changed dc__law_changed pm__law_changed an__law_changed cd__law_changed ct__law_changed), sl__law_changed⟩)
    (c__law_changed : PySem.W.codeIn K cd__law_changed "_law_changed" = true)
    (k__law_changed : PySem.W.keepIn K (.ref f__law_changed) = true)
    (g_law : PySem.W.nsIn K mainGlobals "law" = some (some (.ref f_law)))
    (l_law : K.lookup f_law = some ⟨oc_law, od_law, .func (PySem.W.fnOf "law" "law" (defArgs s_law) (defBody s_law) (defScope s_law) .none kV_law dc_law pm_law an_law cd_law ct_law), sl_law⟩)
    (c_law : PySem.W.codeIn K cd_law "law" = true)
    (k_law : PySem.W.keepIn K (.ref f_law) = true)
    (c_MODULUS : PySem.W.nsIn K mainGlobals "MODULUS" = some (some (.int 65521 t_MODULUS)))
    (n_range : PySem.W.nsIn K mainGlobals "range" = some none)
    (n_len : PySem.W.nsIn K mainGlobals "len" = some none)
    (n_abs : PySem.W.nsIn K mainGlobals "abs" = some none)
    (n_int : PySem.W.nsIn K mainGlobals "int" = some none)
    (n_list : PySem.W.nsIn K mainGlobals "list" = some none) :
    ∃ fd : FuncData, (∀ (s : Shared) (v : Value), BindsTo s fd ⟨[v], []⟩ [("script", v)]) ∧ ∀ base : Heap, K.In base → base.Ns mainGlobals mg → FnOk l.prog w K mg base CX0 2 fa fd ["script"] (sp_law K) := by
  have e : fa = f_law := by
    have z := hfa.symm.trans (PySem.W.mg_of X G g_law)
    injection z with z
    injection z
  rw [e]
  let T : TX K mg := ⟨f_checksum, (PySem.W.fnOf "checksum" "checksum" (defArgs s_checksum) (defBody s_checksum) (defScope s_checksum) (.ref dT_checksum) kV_checksum dc_checksum pm_checksum an_checksum cd_checksum ct_checksum), da_checksum_0, (fun H => Or.inr ⟨_, tv_checksum_0.toArray, tn_checksum_0, lq_checksum_0, rfl, rfl, (by rw [List.size_toArray, ← (Vals.length v_checksum_0)]; exact (by decide : 2 ≤ sizeLine)), (by simpa using v_checksum_0)⟩), (show FunD K "checksum" "checksum" (defArgs s_checksum) (defBody s_checksum) (defScope s_checksum) [.ref da_checksum_0] [] f_checksum (PySem.W.fnOf "checksum" "checksum" (defArgs s_checksum) (defBody s_checksum) (defScope s_checksum) (.ref dT_checksum) kV_checksum dc_checksum pm_checksum an_checksum cd_checksum ct_checksum) from ⟨⟨oc_checksum, od_checksum, .ref dT_checksum, kV_checksum, dc_checksum, pm_checksum, an_checksum, cd_checksum, ct_checksum, sl_checksum, rfl, l_checksum, c_checksum, Or.inr ⟨by simp, dT_checksum, _, [.ref da_checksum_0], dn_checksum, rfl, lT_checksum, rfl, (.cons rfl .nil)⟩, Or.inl rfl⟩, k_checksum⟩), ((show FunD K "checksum" "checksum" (defArgs s_checksum) (defBody s_checksum) (defScope s_checksum) [.ref da_checksum_0] [] f_checksum (PySem.W.fnOf "checksum" "checksum" (defArgs s_checksum) (defBody s_checksum) (defScope s_checksum) (.ref dT_checksum) kV_checksum dc_checksum pm_checksum an_checksum cd_checksum ct_checksum) from ⟨⟨oc_checksum, od_checksum, .ref dT_checksum, kV_checksum, dc_checksum, pm_checksum, an_checksum, cd_checksum, ct_checksum, sl_checksum, rfl, l_checksum, c_checksum, Or.inr ⟨by simp, dT_checksum, _, [.ref da_checksum_0], dn_checksum, rfl, lT_checksum, rfl, (.cons rfl .nil)⟩, Or.inl rfl⟩, k_checksum⟩).binds1 1 0 (by simp) rfl (fun T kV doc pm an cdv ct us its h1 h2 => match us, its, h1, h2 with | [_], [_], _, _ => ⟨_, rfl, rfl⟩)), ((show FunD K "checksum" "checksum" (defArgs s_checksum) (defBody s_checksum) (defScope s_checksum) [.ref da_checksum_0] [] f_checksum (PySem.W.fnOf "checksum" "checksum" (defArgs s_checksum) (defBody s_checksum) (defScope s_checksum) (.ref dT_checksum) kV_checksum dc_checksum pm_checksum an_checksum cd_checksum ct_checksum) from ⟨⟨oc_checksum, od_checksum, .ref dT_checksum, kV_checksum, dc_checksum, pm_checksum, an_checksum, cd_checksum, ct_checksum, sl_checksum, rfl, l_checksum, c_checksum, Or.inr ⟨by simp, dT_checksum, _, [.ref da_checksum_0], dn_checksum, rfl, lT_checksum, rfl, (.cons rfl .nil)⟩, Or.inl rfl⟩, k_checksum⟩).binds1 2 1 (by simp) rfl (fun T kV doc pm an cdv ct us its h1 h2 => match us, its, h1, h2 with | [_, _], [_], _, _ => ⟨_, rfl, rfl⟩)), (PySem.W.mg_of X G g_checksum), f__law_draws, (PySem.W.fnOf "_law_draws" "_law_draws" (defArgs s__law_draws) (defBody s__law_draws) (defScope s__law_draws) .none kV__law_draws dc__law_draws pm__law_draws an__law_draws cd__law_draws ct__law_draws), (fun_mk (st := s__law_draws) l__law_draws c__law_draws k__law_draws), ((fun_mk (st := s__law_draws) l__law_draws c__law_draws k__law_draws).binds (ps := ["script", "many"]) fun _ _ _ _ _ _ us hl => match us, hl with | [_, _], _ => rfl), (PySem.W.mg_of X G g__law_draws), f__law_changed, (PySem.W.fnOf "_law_changed" "_law_changed" (defArgs s__law_changed) (defBody s__law_changed) (defScope s__law_changed) .none kV__law_changed dc__law_changed pm__law_changed an__law_changed cd__law_changed ct__law_changed), (fun_mk (st := s__law_changed) l__law_changed c__law_changed k__law_changed), ((fun_mk (st := s__law_changed) l__law_changed c__law_changed k__law_changed).binds (ps := ["row", "draws"]) fun _ _ _ _ _ _ us hl => match us, hl with | [_, _], _ => rfl), (PySem.W.mg_of X G g__law_changed), f_law, (PySem.W.fnOf "law" "law" (defArgs s_law) (defBody s_law) (defScope s_law) .none kV_law dc_law pm_law an_law cd_law ct_law), (fun_mk (st := s_law) l_law c_law k_law), ((fun_mk (st := s_law) l_law c_law k_law).binds (ps := ["script"]) fun _ _ _ _ _ _ us hl => match us, hl with | [_], _ => rfl), (PySem.W.mg_of X G g_law), t_MODULUS, (PySem.W.mg_of X G c_MODULUS), (PySem.W.mg_none_of X G n_range), (PySem.W.mg_none_of X G n_len), (PySem.W.mg_none_of X G n_abs), (PySem.W.mg_none_of X G n_int), (PySem.W.mg_none_of X G n_list)⟩
  exact ⟨T.d_law, fun s v => .of_eq rfl, fun base _ _ => ok_law T⟩
end My
open PySem PySem.W PyProof.Rows
set_option maxHeartbeats 0 in
theorem PySem.Challenge.cw_majordomo_k03_two_changed_bytes_holds : PySem.Challenge.rw_majordomo_k03_two_changed_bytes.Holds := by
  w_on; o_law; k_head; (case hw => w_witness2)
  k_fill
  refine L2.walk_of (l := PySem.Challenge.rw_majordomo_k03_two_changed_bytes) (n := 63) (k := 2) (x := "script") (CX := (fun _ => L2.CX0)) (sp := fun w => My.sp_law _) rfl (by decide) rfl ⟨rfl, by decide, by decide⟩ (fun w h Y => PySem.W.kIn_of Y) ?F (fun _ _ a ns hl _ hS => ⟨a, ns, rfl, hS, hl, fun _ => rfl⟩) (fun _ _ _ _ _ h => h)
  case F =>
    intro w mg fa h KX G hmg
    refine' My.all_mk KX G hmg ?g_checksum ?l_checksum ?c_checksum ?k_checksum ?lT_checksum ?lq_checksum_0 ?v_checksum_0 ?g__law_draws ?l__law_draws ?c__law_draws ?k__law_draws ?g__law_changed ?l__law_changed ?c__law_changed ?k__law_changed ?g_law ?l_law ?c_law ?k_law ?c_MODULUS ?n_range ?n_len ?n_abs ?n_int ?n_list
    (case g_checksum => k_is); (case l_checksum => k_is); (case c_checksum => k_is); (case k_checksum => k_is); (case lT_checksum => k_is); (case lq_checksum_0 => k_is); (case v_checksum_0 => (repeat (first | exact .nil | refine .cons ⟨_, rfl⟩ ?_ | refine .cons rfl ?_))); (case g__law_draws => k_is); (case l__law_draws => k_is); (case c__law_draws => k_is); (case k__law_draws => k_is); (case g__law_changed => k_is); (case l__law_changed => k_is); (case c__law_changed => k_is); (case k__law_changed => k_is); (case g_law => k_is); (case l_law => k_is); (case c_law => k_is); (case k_law => k_is); (case c_MODULUS => k_is); (case n_range => k_is); (case n_len => k_is); (case n_abs => k_is); (case n_int => k_is); (case n_list => k_is)

