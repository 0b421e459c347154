import Derived.Test.YtjepplacnaoomaaGreatZd19
import Derived.TacticsInMore
import Derived.LoopNIn
import Derived.LoopIn
import Derived.RangeFuncBox
import Derived.Shelf.RegionOpen
import Derived.Test.YtjepplacnaoomaaGreatZd15
import Derived.RangeFuncLeaves
import Derived.ControlIn
namespace Go.Proofs.YtjepplacnaoomaaGreat
open Go Go.RowKit Go.Shelf Go.Proofs
section
variable {P : Program} {w : World}
theorem wide_fn (f : Nat) : Fence.wide.fn f:=trivial
theorem wide_depth : Fence.wide.depth=none:=rfl
end
attribute [local go_sem] Oper.semAt_some
attribute [local go_sem] eql51n eql51f wide_fn wide_depth
def enc1 (x : Int) : Array Value:=#[(Value.int .i64 (x))]
structure Came (J : Nat→(Nat→Prop)→World→Prop) (S : Nat→Prop) (W : World) (k : Nat) (S1 : Nat→Prop) (W1 : World) : Prop where
 j : J k S1 W1
 inW : InW S1 W1
 grows : Grows S S1 W
 chg : Chg S W W1
theorem Came.next {J : Nat→(Nat→Prop)→World→Prop} {S S1 S2 : Nat→Prop} {W W1 W2 : World} {k : Nat} (h : Came J S W k S1 W1) {J' : Nat→(Nat→Prop)→World→Prop} {k' : Nat}
  (hg : Grows S1 S2 W1) (hi : InW S2 W2) (hc : Chg S1 W1 W2) (hj : J' k' S2 W2) : Came J' S W k' S2 W2 :=
 ⟨hj,hi,h.grows.trans hg h.chg.size,h.chg.trans hc (fun _ _ x=>x) (fun b hb x=>(h.grows b x).resolve_right (by omega))⟩
theorem Came.alloc {J : Nat→(Nat→Prop)→World→Prop} {S S1 : Nat→Prop} {W W1 : World} {k : Nat} (h : Came J S W k S1 W1) (hJ : Loc (J k)) (o : Obj) : Came J S W k S1 (W1.alloc o)∧¬ S1 W1.heap.size :=
 ⟨⟨hJ S1 W1 _ h.j h.inW (by simp) (fun b hb=>Below.heap_alloc _ _ _ (h.inW b hb)),h.inW.later (by simp),h.grows,h.chg.alloc o⟩,fun hb=>Nat.lt_irrefl _ (h.inW _ hb)⟩
theorem els_at {la : List R2} {j : Nat} (hj : j<la.length) {d : Nat} (hd : (d : Int)<la[j].2 - la[j].1) : (els la)[(els (la.take j)).length+d]?=some (la[j].1+(d : Int)):=by
 have e1 : els la=els (la.take j) ++ (rng la[j].1 la[j].2 ++ els (la.drop (j+1))):=by
  have hc:=cut_at la j hj
  rw [← els_one,← els_append,← els_append,← hc]
 rw [e1,List.getElem?_append_right (by omega),List.getElem?_append_left (by rw [rng_len]; omega),Nat.add_sub_cancel_left,rng_get (by omega)]
set_option maxRecDepth 100000 in
set_option maxHeartbeats 2000000 in
theorem all1_walk (c : Nat) {la : List R2} {pa : Option Addr} {ca : Nat} (ha : Nrm la) (yv : Value) (J Jx : Nat→(Nat→Prop)→World→Prop) (S : Nat→Prop) (W : World) (hJ : ∀ k,Loc (J k)) (hS : InW S W)
  (hc : W.cell? ⟨c,0,none⟩=some (.slice pa la.length ca)) (hv : Mv W (.slice pa la.length ca) la) (hbS : ∀ g,pa=some ⟨g,0,none⟩→¬ S g) (h0 : J 0 S W)
  (hY : ∀ k (hk : k<(els la).length) S1 W1,InW S1 W1→Chg (fun b=>S b∨False) W W1→J k S1 W1 →
   CallsV Tryz.prog yv (enc1 (els la)[k]) W1 fun e W2=>∃ S2,Grows S1 S2 W1∧InW S2 W2∧Chg S1 W1 W2 ∧
    ((e=.returned (.bool true)∧J (k+1) S2 W2)∨(e=.returned (.bool false)∧Jx (k+1) S2 W2))) :
  Calls Tryz.prog 92 #[yv,(Value.pointer (some ⟨c,0,none⟩))] W fun e W'=>∃ v,e=.returned v∧((∃ S',Came J S W (els la).length S' W')∨∃ k S',0<k∧k≤(els la).length∧Came Jx S W k S' W'):=by
 obtain ⟨na,hna⟩ : ∃ na,la.length=na:=⟨_,rfl⟩
 have HV:=Lib.hid (And.intro hv (And.intro hna (And.intro ha hbS)))
 have HY:=Lib.hid hY
 have hla:=runs_len ha
 have HJ:=Lib.hid hJ
 rw [hna] at hc hla
 clear hv ha hbS hna hY hJ
 refine (callsIn_wide (n:=0)).1 ?_
 refine callsIn_of_wp Tryz.func92 rfl trivial ?_ rfl
 simp only [Tryz.ntmps92,List.size_toArray,List.length_cons,List.length_nil,Nat.reduceAdd,Nat.reduceSub,Array.replicate_succ,Array.replicate_zero,List.push_toArray,List.append_toArray,List.nil_append,List.cons_append]
 gi_wp2
 gi_loopw [9] (fun iv wr=>∃ (j : Nat) (S1 : Nat→Prop),j≤na∧iv=.int .i64 (j : Int)∧Came J S W (els (la.take j)).length S1 wr) (fun iv _=>na - (intOf iv).toNat)
 case atStart=>exact ⟨0,S,Nat.zero_le _,rfl,⟨h0,hS,.refl _ _,.refl _ _⟩⟩
 case round =>
  obtain ⟨j,S1,hj,rfl,hC⟩:=hrel
  by_cases hlt : j<na
  ·have hja : j<la.length:=by rw [HV.out.2.1]; exact hlt
   obtain ⟨g,rfl,hg,a0,a1,a2⟩:=HV.out.1.run hja
   have hgS:=HV.out.2.2.2 g rfl
   have a0:=(hC.chg.cell (p:=⟨g,j*3,none⟩) hg hgS).trans a0
   have a1:=(hC.chg.cell (p:=⟨g,j*3+1,none⟩) hg hgS).trans a1
   have a2:=(hC.chg.cell (p:=⟨g,j*3+2,none⟩) hg hgS).trans a2
   have hat : ∀ d : Nat,(d : Int)<la[j].2 - la[j].1→(els la)[(els (la.take j)).length+d]?=some (la[j].1+(d : Int)):=fun d hd=>els_at hja hd
   have hrb:=HV.out.2.2.1.2 la[j] (List.getElem_mem _)
   have hnext : (els (la.take (j+1))).length=(els (la.take j)).length+(la[j].2 - la[j].1).toNat:=by rw [List.take_succ_eq_append_getElem hja,els_append,els_one,List.length_append,rng_len]
   obtain ⟨r,hr⟩ : ∃ r,la[j]=r:=⟨_,rfl⟩
   simp only [hr] at a0 a1 hat hrb hnext
   obtain ⟨f,t⟩:=r
   obtain ⟨cj,hcj⟩ : ∃ cj,(els (la.take j)).length=cj:=⟨_,rfl⟩
   simp only [hcj] at a2 hC hnext hat
   have HA:=Lib.hid (And.intro hat hnext)
   obtain ⟨hC1,hn1⟩:=hC.alloc (HJ.out cj) (.cells #[(Value.int .i64 (f)),(Value.int .i64 (t)),(Value.int .i64 ((cj : Int)))] 147)
   have hf0 : 0≤f:=hrb.1
   have hft : f<t:=hrb.2.1
   have ht6 : t≤65536:=hrb.2.2
   have hbx:=heap_alloc_new wr (.cells #[(Value.int .i64 (f)),(Value.int .i64 (t)),(Value.int .i64 ((cj : Int)))] 147)
   obtain ⟨rb,hrb'⟩ : ∃ rb,wr.heap.size=rb:=⟨_,rfl⟩
   have HC:=Lib.hid (And.intro hC1 (And.intro hn1 hbx))
   rw [hrb'] at HC
   clear hcj hr hat hnext hrb hC1 hn1 hbx hC hc
   gi_wp2
   gi_loopw [5] (fun iv w=>∃ (d : Nat) (S2 : Nat→Prop),(d : Int)≤t - f∧iv=.int .i64 (f+(d : Int))∧Came J S W (cj+d) S2 w∧¬ S2 rb∧w.heap[rb]?=some (.cells #[(Value.int .i64 (f)),(Value.int .i64 (t)),(Value.int .i64 ((cj : Int)))] 147)) (fun iv _=>(t - intOf iv).toNat)
   case atStart=>exact ⟨0,S1,by omega,by simp,HC.out.1,HC.out.2.1,HC.out.2.2⟩
   case round =>
    clear a0 a1 a2
    obtain ⟨d,S2,hd,rfl,hC,hn,hx⟩:=hrel
    have x1:=nd_cell hx 1
    have hrl:=lt_of_heap hx
    have HX:=Lib.hid (And.intro hC (And.intro hn hx))
    clear hC hn hx
    by_cases hdl : (d : Int)<t - f
    ·obtain ⟨hkl,hke⟩:=List.getElem?_eq_some_iff.1 (HA.out.1 d hdl)
     have hY1:=HY.out (cj+d) hkl S2 wr HX.out.1.inW (HX.out.1.chg.mono fun _ _ x=>.inl x) HX.out.1.j
     rw [hke] at hY1
     have hlt' : f+(d : Int)<t:=by omega
     clear hkl hke
     gi_wp2_with ((with_reducible refine wpListIn_callV ?_ ?_ yv [(Value.int .i64 (f+(d : Int)))] ?_ ?_ ?_); rfl; rfl; rfl; rfl; refine hY1.mono ?_; clear hY1; rintro e W2 ⟨S3,hg3,hi3,hch3,(⟨rfl,hj3⟩ | ⟨rfl,hj3⟩)⟩ <;> refine ⟨_,rfl,?_⟩)
     ·go_roundw
      case rel=>exact ⟨d+1,S3,by omega,by congr 1 <;> omega,HX.out.1.next hg3 hi3 hch3 hj3,fun h=>(hg3 rb h).elim HX.out.2.1 (fun h=>by omega),(hch3.block rb hrl HX.out.2.1).trans HX.out.2.2⟩
      case measure=>simp [intOf]; omega
     ·refine bodyPost_ret (results_none rfl _ _ _) rfl ?_
      exact ⟨_,rfl,.inr ⟨cj+d+1,S3,by omega,by
       have:=(List.getElem?_eq_some_iff.1 (HA.out.1 d hdl)).1
       omega,HX.out.1.next hg3 hi3 hch3 hj3⟩⟩
    ·have hlt' : ¬ f+(d : Int)<t:=by omega
     gi_wp2
     go_roundw
     case rel=>exact ⟨j+1,S2,by omega,by simp,by
      rw [HA.out.2]
      have e : (t - f).toNat=d:=by omega
      show Came J S W (cj+(t - f).toNat) S2 wr
      rw [e]
      exact HX.out.1⟩
     case measure=>simp [intOf]; omega
  ·have e : els (la.take j)=els la:=by rw [List.take_of_length_le (by rw [HV.out.2.1]; omega)]
   rw [e] at hC
   have HC:=Lib.hid hC
   clear hC e hc
   gi_wp2
   go_end0
   exact ⟨_,rfl,.inl ⟨S1,HC.out⟩⟩
theorem all_gives (c : Nat) {la : List R2} {va : Value} (ha : Nrm la) (W0 : World) (hv0 : Mv W0 va la) : Gives Tryz.prog (.func (.func 92) #[] #[(Value.pointer (some ⟨c,0,none⟩))]) enc1 (els la) (fun b=>b=c∨va.ownBlock=some b) (fun _=>False) (fun _ W=>Cell W c va∧Mv W va la):=by
 obtain ⟨pa,ca,rfl,_,_⟩:=hv0.slice
 refine ⟨fun k W W' ⟨h1,h2⟩ _ _ hb=>⟨h1.of (hb c (.inl rfl)),HRow.of h2 (fun b h=>hb b (.inr h))⟩,⟨92,_,rfl⟩,fun _ x=>x.elim,?_⟩
 rintro yf yb J Jx S W hJ hJx hS hM hSM ⟨hc,hq⟩ h0 hY
 refine .inl ⟨92,_,rfl,enters_of Tryz.func92 (by kernel_rfl) rfl,?_⟩
 have hw:=all1_walk c (pa:=pa) (ca:=ca) ha (.func yf #[] yb) J Jx S W hJ hS hc.1 hq (fun g hg hs=>hSM g hs (.inr (by subst hg; rfl))) h0 hY
 refine hw.mono ?_
 have hq' : ∀ W',Chg S W W'→Cell W' c (.slice pa la.length ca)∧Mv W' (.slice pa la.length ca) la:=fun W' h =>
  ⟨hc.of (h.block c (hM c (.inl rfl)) (fun x=>hSM c x (.inl rfl))),HRow.of hq (fun b hb=>h.block b (hM b (.inr hb)) (fun x=>hSM b x (.inr hb)))⟩
 rintro e W' ⟨v,rfl,(⟨S',h⟩ | ⟨k,S',hk0,hk,h⟩)⟩
 ·exact ⟨v,S',rfl,h.grows,h.inW,h.chg.mono (fun _ _ x=>.inl x),.inl ⟨h.j,hq' _ h.chg⟩⟩
 ·exact ⟨v,S',rfl,h.grows,h.inW,h.chg.mono (fun _ _ x=>.inl x),.inr ⟨k,hk0,hk,h.j,hq' _ h.chg⟩⟩
theorem all_any {va : Value} {la : List R2} {W : World} (hv : Mv W va la) : Calls Tryz.prog 58 #[.agg #[va]] W fun e w'=>e=.returned (.func (.func 92) #[] #[(Value.pointer (some ⟨W.heap.size,0,none⟩))])∧w'=W.alloc (.cells #[va] 110):=by
 obtain ⟨pa,ca,rfl,_,_⟩:=hv.slice
 clear hv
 go_enter Tryz.func58,Tryz.ntmps58
 go_wp2
 go_ret
 exact ⟨rfl,rfl⟩
def Bm (w : World) (b : Nat) (v : Value) (P : Int→Bool) : Prop:=∃ l,w.heap[b]?=some (.cells #[v] 110)∧Mv w v l∧Nrm l∧Is l P
def Vm (w : World) (v : Value) (P : Int→Bool) : Prop:=∃ l,Mv w v l∧Nrm l∧Is l P
theorem Vm.later {w w' : World} {v : Value} {P : Int→Bool} (h : Vm w v P) (hb : Below w.heap.size w w') : Vm w' v P:=by
 obtain ⟨l,h2,h3,h4⟩:=h
 exact ⟨l,h2.later hb,h3,h4⟩
theorem Vm.slc {w : World} {v : Value} {P : Int→Bool} (h : Vm w v P) : ∃ p n c,v=.slice p n c:=by
 obtain ⟨l,h,_⟩:=h
 obtain ⟨p,c,e,_⟩:=h.slice
 exact ⟨p,_,c,e⟩
def IsV (P : Int→Bool) (W : World) (e : Ending) (w' : World) : Prop:=∃ p n c,e=.returned (.agg #[.slice p n c])∧Vm w' (.slice p n c) P∧Below W.heap.size W w'
theorem IsMap.v {P : Int→Bool} {W : World} {e : Ending} {w' : World} (h : IsMap P W e w') : IsV P W e w':=by
 obtain ⟨v,l,he,hm,hn,hi,hb⟩:=h
 obtain ⟨p,c,e2,_⟩:=hm.slice
 subst e2
 exact ⟨p,_,c,he,⟨l,hm,hn,hi⟩,hb⟩
section
variable {W : World} {va vb : Value} {P Q : Int→Bool}
theorem vor (ha : Vm W va P) (hb : Vm W vb Q) : Calls Tryz.prog 116 #[.agg #[va],.agg #[vb]] W (IsV (fun x=>P x || Q x) W):=by
 obtain ⟨la,h1,h2,h3⟩:=ha
 obtain ⟨lb,k1,k2,k3⟩:=hb
 exact (or_any h2 k2 h1 k1 h3 k3).mono fun _ _ h=>h.v
theorem vnot (ha : Vm W va P) (n : Int) : Calls Tryz.prog 91 #[.agg #[va],(Value.int .i64 (n))] W (IsV (notP P n) W):=by
 obtain ⟨la,h1,h2,h3⟩:=ha
 exact (not_any h2 h1 h3 n).mono fun _ _ h=>h.v
theorem vof {p : Option Addr} {xs : List Int} {n c : Nat} (hn : xs.length=n) (hl : n≤100000) (hr : Rd W p xs) : Calls Tryz.prog 117 #[.slice p n c] W (IsV (ofP xs) W):=(of_any hn hl hr).mono fun _ _ h=>h.v
theorem vcount (ha : Vm W va P) : Calls Tryz.prog 68 #[.agg #[va]] W fun e w'=>e=.returned (Value.int .i64 (((elems P).length : Int)))∧Below W.heap.size W w':=by
 obtain ⟨la,h1,h2,h3⟩:=ha
 rw [← h3.els h2]
 exact count_any h2 h1
end
attribute [local go_sem] Oper.semAt_some
attribute [local go_sem] eql51n eql51f wide_fn wide_depth
theorem els_of {l : List R2} {P : Int→Bool} {xs : List Int} (hl : Nrm l) (hP : Is l P) (hs : xs.Pairwise (·<·)) (h : ∀ x,P x=true↔x∈xs) : els l=xs :=
 srt_ext (els_srt hl) hs (fun x=>by rw [mem_els,hP x,h x])
abbrev L3 : List R2:=[(1,3),(5,6)]
def p3 (x : Int) : Bool:=decide (x=1∨x=2∨x=5)
structure Bh (W : World) (v : Value) (mb nb g D : Nat) (x : World) : Prop where
 mv : Mv x v L3
 kb : x.heap[mb]?=some (.cells #[v] 110)
 kn : x.cell? ⟨nb,0,none⟩=some (Value.int .i64 (3))
 r0 : x.cell? ⟨g,0,none⟩=some (Value.int .i64 (1))
 r1 : x.cell? ⟨g,1,none⟩=some (Value.int .i64 (3))
 kd : x.heap[D]?=some (.deferred (some []))
 bel : Below W.heap.size W x
end Go.Proofs.YtjepplacnaoomaaGreat
