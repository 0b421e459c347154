import Derived.Test.YtjepplacnaoomaaGreatZd33
namespace Go.Proofs.YtjepplacnaoomaaGreat
open Go Go.RowKit Go.Proofs Co Co.S
abbrev tShop : T:=formT tShopS
theorem few_shop : Few tShop:=⟨by decide,by decide,by decide⟩
theorem kd_shop : ∀ c∈tShop.cols,c.kd=1∨c.kd=2:=by decide
def IsF (t : T) (W : World) (e : Ending) (w' : World) : Prop:=∃ cv dv,e=.returned (.agg #[.string t.nm,cv,.string t.key,dv])∧RdT w' cv dv t∧Below W.heap.size W w'
abbrev z4 : Array Value:=#[.string e0,.slice none 0 0,.string e0,.slice none 0 0]
theorem RdX.off {W W' : World} {v : Value} {n k B : Nat} {xs : List Value} (h : RdX W v n k xs) (hB : W.heap[B]?=some (.cells z4 46)) {j : Nat} {u : Value} (hu : xs[j]?=some u) (hne : ∀ i : Nat,z4[i]?≠some u)
  (hk : ∀ b,b≠B→W'.heap[b]?=W.heap[b]?) : RdX W' v n k xs:=by
 obtain ⟨h0,p,cap,h1,h2,h3,hsp,h4⟩:=h
 refine ⟨h0,p,cap,h1,h2,h3,hsp,fun hn=>?_⟩
 obtain ⟨b,off,cur,e,m,h5,h6,h7,h8,h9⟩:=h4 hn
 refine ⟨b,off,cur,e,m,h5,(hk b (fun e'=>?_)).trans h6,h7,h8,h9⟩
 rw [e',hB] at h6
 cases h6
 exact hne _ (h9 j u hu)
theorem z4_ne {u : Value} (h1 : u≠.string e0) (h2 : u≠.slice none 0 0) : ∀ i : Nat,z4[i]?≠some u:=by
 intro i h
 rcases i with _ | _ | _ | _ | i
 ·exact h1 (Option.some.inj h).symm
 ·exact h2 (Option.some.inj h).symm
 ·exact h1 (Option.some.inj h).symm
 ·exact h2 (Option.some.inj h).symm
 ·cases h
theorem RdT.off {W W' : World} {cv dv : Value} {B : Nat} (h : RdT W cv dv tShop) (hB : W.heap[B]?=some (.cells z4 46)) (hk : ∀ b,b≠B→W'.heap[b]?=W.heap[b]?) : RdT W' cv dv tShop:=by
 obtain ⟨h1,ps,h2,h3,h4⟩:=h
 refine ⟨RdX.off h1 hB (j:=1) (u:=.int .i64 1) rfl (z4_ne (by simp) (by simp)) hk,ps,h2,?_,fun j hj hj'=>?_⟩
 ·have hp : ∃ x,ps=[x]:=List.length_eq_one_iff.1 h2
  obtain ⟨x,rfl⟩:=hp
  exact RdX.off h3 hB (j:=1) (u:=.string sZone) rfl (z4_ne (by simp) (by simp)) hk
 ·have hz : j=0:=by have : j<1:=hj'; omega
  subst hz
  exact RdX.off (h4 0 hj hj') hB (j:=0) (u:=.string sCity) rfl (z4_ne (by simp) (by simp)) hk
set_option maxRecDepth 100000 in
set_option maxHeartbeats 1000000 in
theorem shop_any (W : World) : Calls Tryz.prog 108 #[] W (IsF tShop W):=by
 have hb:=below_alloc W (.cells #[.string e0,.slice none 0 0,.string e0,.slice none 0 0] 46)
 have hk:=heap_alloc_new W (.cells #[.string e0,.slice none 0 0,.string e0,.slice none 0 0] 46)
 have hstar:=star_any (W.alloc (.cells #[.string e0,.slice none 0 0,.string e0,.slice none 0 0] 46))
 obtain ⟨w1,hw1⟩ : ∃ w1,W.alloc (.cells #[.string e0,.slice none 0 0,.string e0,.slice none 0 0] 46)=w1:=⟨_,rfl⟩
 obtain ⟨B,hB⟩ : ∃ B,W.heap.size=B:=⟨_,rfl⟩
 rw [hw1] at hb hk hstar
 rw [hB] at hk
 have HW:=Lib.hid hw1
 have HB:=Lib.hid hB
 have HK:=Lib.hid (And.intro hb hk)
 clear hw1 hb hk hB
 go_enter Tryz.func108,Tryz.ntmps108
 go_upto_region 1 with fail
 rw [HW.out,HB.out]
 go_wp2_with (first
  | (go_at_call 34; (with_reducible refine hstar.mono ?_); rintro e w2 ⟨v,rfl,hR,hb2⟩; obtain ⟨p,cap,rfl,_,_⟩:=hR.slice; obtain ⟨b,off,cv,dv,rfl,hlt,c0,c1,c2,c3,hT⟩:=hR.tab (i:=1) (by decide); obtain ⟨pc,kc,rfl,_,_⟩:=hT.c.slice; obtain ⟨pd,kd,rfl,_,_⟩:=hT.d.slice; have hform:=rform_any hT (by decide) (by decide); have H2:=Lib.hid (heap_on hb2 HK.out.2); have HB2:=Lib.hid (below_on HK.out.1 hb2); clear hb2 hR)
  | (go_at_call 74; (with_reducible refine hform.mono ?_); rintro e w3 ⟨p1,k1,rfl,hT3,hb3⟩; have hx:=heap_on hb3 H2.out; have z0:=nd_cell hx 0; have z1:=nd_cell hx 1; have z2:=nd_cell hx 2; have z3:=nd_cell hx 3; have zf:=fun i=>frozen_of_row w3 B i _ _ hx; have zl:=lt_of_heap hx; have H3:=Lib.hid (And.intro hT3 (And.intro (below_on HB2.out hb3) hx)); clear hx hT3 hb3))
 have hS4:=set4 H3.out.2.2 (.string sShop) (.slice p1 4 k1) (.string sId) (.slice pd 1 kd)
 have hBx:=below_set4 H3.out.2.1 (Nat.le_of_eq HB.out) (.string sShop) (.slice p1 4 k1) (.string sId) (.slice pd 1 kd)
 have hO:=RdT.off (W':=(((w3.setCell ⟨B,0,none⟩ (.string sShop)).setCell ⟨B,1,none⟩ (.slice p1 4 k1)).setCell ⟨B,2,none⟩ (.string sId)).setCell ⟨B,3,none⟩ (.slice pd 1 kd)) H3.out.1 H3.out.2.2 (fun q hq=>set4_other w3 B q hq (.string sShop) (.slice p1 4 k1) (.string sId) (.slice pd 1 kd))
 show bodyPost Tryz.prog Tryz.f108 (IsF tShop W) Exit.ret _ ((((w3.setCell ⟨B,0,none⟩ (.string sShop)).setCell ⟨B,1,none⟩ (.slice p1 4 k1)).setCell ⟨B,2,none⟩ (.string sId)).setCell ⟨B,3,none⟩ (.slice pd 1 kd))
 generalize (((w3.setCell _ _).setCell _ _).setCell _ _).setCell _ _=wz at hS4 hBx hO ⊢
 have y0:=nd_cell hS4 0
 have y1:=nd_cell hS4 1
 have y2:=nd_cell hS4 2
 have y3:=nd_cell hS4 3
 refine bodyPost_ret (v:=.agg #[.string sShop,(.slice p1 4 k1),.string sId,(.slice pd 1 kd)]) (by simp [results,Tryz.results108,go_sem,y0,y1,y2,y3]) rfl ?_
 exact ⟨_,_,rfl,hO,hBx⟩
abbrev rowL (id : Int) (city : ByteArray) : List T3:=[(1,id,e0),(2,0,city),z3,z3]
set_option maxRecDepth 100000 in
set_option maxHeartbeats 1000000 in
theorem row_any (id : Int) (city : ByteArray) (W : World) : Calls Tryz.prog 109 #[.int .i64 id,.string city] W fun e w'=>e=.returned (.slice (some ⟨W.heap.size,0,none⟩) 4 4)∧HRow w' W.heap.size 26 3 (.slice (some ⟨W.heap.size,0,none⟩) 4 4) 4 (cells3 (rowL id city))∧Below W.heap.size W w':=by
 go_enter Tryz.func109,Tryz.ntmps109
 go_wp2_with fail
 go_ret
 exact ⟨rfl,⟨rfl,.inr ⟨_,4,_,rfl,Nat.le_refl _,heap_alloc_new W _,Nat.le_refl _,by decide,by simp,rfl⟩⟩,below_alloc W _⟩
def St (W w : World) (tb next : Nat) (A : List R1) : Prop:=∃ lab,Tb w tb tShop next A lab∧(∀ b,lab b≠0→W.heap.size≤b)∧Below W.heap.size W w
section
variable {W w w' w0 : World} {tb next : Nat} {A : List R1}
theorem St.later (h : St W w tb next A) (hb : Below w.heap.size w w') : St W w' tb next A:=by
 obtain ⟨lab,h1,h2,h3⟩:=h
 exact ⟨lab,h1.later hb,h2,h3.trans (hb.mono h3.size)⟩
theorem St.bel (h : St W w tb next A) : Below W.heap.size W w:=by obtain ⟨lab,h1,h2,h3⟩:=h; exact h3
theorem st_turn {A' : List R1} {next' : Nat} {lab lab' : Nat→Nat} (h2 : ∀ b,lab b≠0→W.heap.size≤b) (h3 : Below W.heap.size W w) (k1 : Tb w' tb tShop next' A' lab') (k2 : Ext w lab lab') (k3 : Tn (fun b=>lab b≠0) w w') : St W w' tb next' A':=by
 refine ⟨lab',k1,fun b hb=>?_,h3.trans (k3.chg.below h3.size (fun b hb hn=>?_))⟩
 ·rcases Nat.lt_or_ge b w.heap.size with hlt | hge
  ·exact h2 b (by rw [← k2 b hlt]; exact hb)
  ·have:=h3.size; omega
 ·have:=h2 b hn; omega
theorem st_new {cv dv : Value} (h : RdT w cv dv tShop) (hb : Below W.heap.size W w) : Calls Tryz.prog 76 #[.agg #[.string tShop.nm,cv,.string tShop.key,dv]] w fun e w'=>∃ tb,e=.returned (Value.pointer (some ⟨tb,0,none⟩))∧St W w' tb 0 []:=by
 refine (tnew_any h few_shop kd_shop).mono ?_
 rintro e w' ⟨tb,lab,rfl,h1,h2,h3⟩
 exact ⟨tb,rfl,lab,h1,fun b hb2=>Nat.le_trans hb.size (h2 b hb2),hb.trans (h3.mono hb.size)⟩
theorem st_ins (h : St W w0 tb next A) (hb : Below w0.heap.size w0 w) {v : Value} {vals : List T3} (hr : HRow w w0.heap.size 26 3 v vals.length (cells3 vals)) (hn : next≤390) (hs : ∀ x∈vals,x.2.2.size≤maxLen) (hok : insE tShop vals=0) :
  Calls Tryz.prog 43 #[(Value.pointer (some ⟨tb,0,none⟩)),v] w fun e w'=>e=.returned (.tuple #[.int .i64 (next : Int),.int .i64 0])∧St W w' tb (next+1) (A ++ [((next : Int),vals)]):=by
 have hl : vals.length≤1000000:=by
  unfold insE at hok
  have h4 : tShop.cols.length=4:=rfl
  by_cases e : vals.length=tShop.cols.length
  ·omega
  ·rw [if_pos e] at hok; cases hok
 obtain ⟨lab,h0,h2,h30⟩:=h
 have h1:=h0.later hb
 have h3 : Below W.heap.size W w:=h30.trans (hb.mono h30.size)
 have hlt:=h0.lt
 refine (tb_ins_yes h1 (InV.of_row hr rfl) (fun b hb2=>Classical.byContradiction fun hn2=>by
  have:=(HRow.lt hr b hb2).1
  have:=hlt b hn2
  omega) hn (by decide) hs hl hok).mono ?_
 rintro e w' ⟨rfl,lab',k1,k2,k3⟩
 exact ⟨rfl,st_turn h2 h3 k1 k2 k3⟩
theorem st_insnil (h : St W w tb next A) (hn : next<65536) : Calls Tryz.prog 43 #[(Value.pointer (some ⟨tb,0,none⟩)),.slice none 0 0] w fun e w'=>e=.returned (.tuple #[.int .i64 0,.int .i64 1])∧St W w' tb next A:=by
 obtain ⟨lab,h1,h2,h3⟩:=h
 refine (tb_ins_no (S:=fun _=>False) (vals:=[]) h1 ⟨none,0,rfl,Nat.le_refl _,Nat.zero_le _,fun h=>absurd h (Nat.lt_irrefl _)⟩ hn (by decide) (fun x hx=>by cases hx) (Nat.zero_le _) (by decide)).mono ?_
 rintro e w' ⟨rfl,hb⟩
 exact ⟨rfl,St.later ⟨lab,h1,h2,h3⟩ hb⟩
theorem st_del (h : St W w tb next A) {a : R1} (ha : a∈A) (hn : next≤800) : Calls Tryz.prog 48 #[(Value.pointer (some ⟨tb,0,none⟩)),.int .i64 a.1] w fun e w'=>e=.returned (.bool true)∧St W w' tb next (without A a.1):=by
 obtain ⟨lab,h1,h2,h3⟩:=h
 refine (tb_del_yes h1 ha hn (by decide)).mono ?_
 rintro e w' ⟨rfl,lab',k1,k2,k3⟩
 exact ⟨rfl,st_turn h2 h3 k1 k2 k3⟩
theorem st_set (h : St W w tb next A) {a : R1} (ha : a∈A) (hn : next≤800) {y : ByteArray} {j : Nat} (hj : j<tShop.cols.length) (hy : ixC tShop.cols y=(j : Int)) (k n1 : Int) (s : ByteArray) (hs : s.size≤maxLen) (hin : inC tShop.cols[j].kd (k,n1,s)=true) :
  Calls Tryz.prog 50 #[(Value.pointer (some ⟨tb,0,none⟩)),.int .i64 a.1,.string y,(Value.agg #[Value.int .i64 (k),Value.int .i64 (n1),Value.string (s)])] w fun e w'=>e=.returned (.int .i64 0)∧St W w' tb next (setA A a.1 j (k,n1,s)):=by
 obtain ⟨lab,h1,h2,h3⟩:=h
 refine (tb_set_yes h1 ha hn hj hy k n1 s hs hin).mono ?_
 rintro e w' ⟨rfl,lab',k1,k2,k3⟩
 exact ⟨rfl,st_turn h2 h3 k1 k2 k3⟩
theorem st_row (h : St W w tb next A) {a : R1} (ha : a∈A) : Calls Tryz.prog 69 #[(Value.pointer (some ⟨tb,0,none⟩)),.int .i64 a.1] w fun e w'=>∃ g c,e=.returned (.tuple #[.slice (some ⟨g,0,none⟩) 4 c,.bool true])∧HRow w' w.heap.size 26 3 (.slice (some ⟨g,0,none⟩) 4 c) 4 (cells3 a.2)∧Below w.heap.size w w':=by
 obtain ⟨lab,h1,h2,h3⟩:=h
 refine (tb_row_yes h1 ha (by decide) (by decide)).mono ?_
 rintro e w' ⟨g,c,rfl,_,k2,k3⟩
 exact ⟨g,c,rfl,k2,k3⟩
theorem st_get (h : St W w tb next A) {a : R1} (ha : a∈A) {y : ByteArray} {k : Nat} (hk : k<tShop.cols.length) (hy : ixC tShop.cols y=(k : Int)) {u : T3} (hu : a.2[k]?=some u) :
  Calls Tryz.prog 59 #[(Value.pointer (some ⟨tb,0,none⟩)),.int .i64 a.1,.string y] w fun e w'=>e=.returned (.tuple #[(Value.agg #[Value.int .i64 (u.1),Value.int .i64 (u.2.1),Value.string (u.2.2)]),.bool true])∧Below w.heap.size w w':=by
 obtain ⟨lab,h1,h2,h3⟩:=h
 exact tb_get_yes h1 ha hk hy hu
theorem st_copy (h : St W w tb next A) (hn : next≤390) : Calls Tryz.prog 54 #[(Value.pointer (some ⟨tb,0,none⟩))] w fun e w'=>∃ ob,e=.returned (Value.pointer (some ⟨ob,0,none⟩))∧St W w' ob next A∧Below w.heap.size w w':=by
 obtain ⟨lab,h1,h2,h3⟩:=h
 refine (tb_copy h1 few_shop kd_shop hn (by decide)).mono ?_
 rintro e w' ⟨ob,lab',rfl,k1,k2,k3⟩
 exact ⟨ob,rfl,⟨lab',k1,fun b hb=>Nat.le_trans h3.size (k2 b hb),h3.trans (k3.mono h3.size)⟩,k3⟩
theorem st_next (h : St W w tb next A) : Calls Tryz.prog 33 #[(Value.pointer (some ⟨tb,0,none⟩))] w fun e w'=>e=.returned (.int .i64 (next : Int))∧w'=w:=by
 obtain ⟨lab,h1,h2,h3⟩:=h
 exact tb_next h1
theorem st_live (h : St W w tb next A) : Calls Tryz.prog 57 #[(Value.pointer (some ⟨tb,0,none⟩))] w fun e w'=>∃ p n c,e=.returned (.agg #[.slice p n c])∧Below w.heap.size w w' ∧
  Calls Tryz.prog 68 #[.agg #[.slice p n c]] w' fun e w2=>e=.returned (.int .i64 (A.length : Int))∧Below w'.heap.size w' w2:=by
 obtain ⟨lab,h1,h2,h3⟩:=h
 refine (tb_live h1).mono ?_
 rintro e w' ⟨p,n,c,rfl,hv,hb⟩
 refine ⟨p,n,c,rfl,hb,?_⟩
 have hc:=vcount hv
 obtain ⟨l,_,k1,k2⟩:=hv
 rw [← k2.els k1,ids_els k1 k2 h1.srt,List.length_map] at hc
 exact hc
theorem st_words (h : St W w tb next A) {x : ByteArray} {k : Nat} (hk : k<tShop.cols.length) (hx : ixC tShop.cols x=(k : Int)) (m : List (K 12)) (hm : m.Nodup) (hs : ∀ s,s∈m↔∃ a∈A,∃ y,a.2[k]?=some y∧y.1=2∧wd y.2.2=s) :
  Calls Tryz.prog 110 #[(Value.pointer (some ⟨tb,0,none⟩)),.string x] w fun e w'=>e=.returned (.int .i64 (m.length : Int))∧Below w.heap.size w w':=by
 obtain ⟨lab,h1,h2,h3⟩:=h
 exact tb_words h1 hk hx m hm hs
theorem st_form (h : St W w tb next A) : Calls Tryz.prog 111 #[(Value.pointer (some ⟨tb,0,none⟩))] w fun e w'=>∃ p1 c1 p2 c2 ps,e=.returned (.agg #[.string tShop.nm,.slice p1 4 c1,.string tShop.key,.slice p2 1 c2])∧OwnT w' w.heap.size (.slice p1 4 c1) (.slice p2 1 c2) tShop ps∧Below w.heap.size w w':=by
 obtain ⟨lab,h1,h2,h3⟩:=h
 refine (tb_form h1 few_shop).mono ?_
 rintro e w' ⟨p1,c1,p2,c2,ps,rfl,k1,k2⟩
 exact ⟨p1,c1,p2,c2,ps,rfl,k1,k2⟩
end
end Go.Proofs.YtjepplacnaoomaaGreat
