import Derived.Test.YtgbkmjnnlkgpnaaGreatZb38
import Derived.Test.YtgbkmjnnlkgpnaaGreatZb28
import Derived.Test.YtgbkmjnnlkgpnaaGreatZb27
set_option maxHeartbeats 8000000
set_option maxRecDepth 100000
namespace Go.Proofs.YtgbkmjnnlkgpnaaGreat
open Go Go.RowKit Go.Shelf Go.Proofs Co Co.S
attribute [local go_sem] Oper.semAt_some
attribute [local go_sem] eql51n eql51f wide_fn wide_depth
theorem Dd.rows {W:World} {d:Nat} {ts:List T} {st:List DT} {O:Nat->Nat} (h:Dd W d ts st O) {j:Nat} (hj:j<ts.length) (hx:ts[j].nm.size<=maxLen) (hj':j<st.length):Calls Tryz.prog 53 #[(Value.pointer (some ⟨d,0,none⟩)),.string ts[j].nm] W fun e w'=>e=.returned (Value.pointer (some ⟨st[j].1,0,none⟩))/\w'=W:=by
 obtain⟨mv,f,n,k1,k2,k3,k4,k5⟩:=h.own
 have:=drows_any k1 k2 hx
 rw[k3 j hj hj'] at this;exact this
theorem Dd.dlt {W:World} {d:Nat} {ts:List T} {st:List DT} {O:Nat->Nat} (h:Dd W d ts st O):d<W.heap.size:=h.lt d (by rw[h.od];decide)
structure KyG (W:World) (B F G tb next:Nat) (t:T) (A:List R1) (lab:Nat->Nat) (u:T3) (cvv dvv:Value) (S:Nat->Prop) (w:World):Prop where
 tab:Tb w tb t next A lab
 sup:∀ b,lab b≠0->S b/\b<W.heap.size
 cv:w.heap[B]?=some (.cells #[.int .i64 u.1,.int .i64 u.2.1,.string u.2.2] 42)
 c1:w.heap[B+1]?=some (.cells #[.int .i64 0] 3)
 c2:w.heap[B+1+1]?=some (.cells #[.bool false] 4)
 cf:w.heap[F]?=some (.cells #[.string t.nm,cvv,.string t.key,dvv] 70)
 cg:w.heap[G]?=some (.cells #[(Value.pointer (some ⟨tb,0,none⟩))] 63)
 s1:S (B+1)
 s2:S (B+1+1)
 old:∀ b,b<W.heap.size->S b∨∃ cur e m,w.heap[b]?=some (.cells cur e m)
 bel:Below W.heap.size W w
structure KyX (W:World) (B:Nat) (A:List R1) (kc:Nat) (u:T3) (S:Nat->Prop) (w:World):Prop where
 res:∃ i,byRow A kc u=some i/\w.heap[B+1]?=some (.cells #[.int .i64 i] 3)
 c2:w.heap[B+1+1]?=some (.cells #[.bool true] 4)
 old:∀ b,b<W.heap.size->S b∨∃ cur e m,w.heap[b]?=some (.cells cur e m)
 bel:Below W.heap.size W w
section
variable {W A' B' w1 w2:World} {B F G tb next kc:Nat} {t:T} {A:List R1} {lab:Nat->Nat} {u:T3} {cvv dvv:Value} {S:Nat->Prop}
theorem old_loc (hb:∀ b,S b->B'.heap[b]?=A'.heap[b]?) (hkc:∀ (b:Nat) (cur:Array Value) (e:TypeId) (m:Nat×Nat),A'.heap[b]?=some (Obj.cells cur e m)->B'.heap[b]?=some (Obj.cells cur e m))
  (hsz:A'.heap.size<=B'.heap.size) (hos:B'.os=A'.os/\B'.tape=A'.tape/\B'.output=A'.output) (hold:∀ b,b<W.heap.size->S b∨∃ cur e m,A'.heap[b]?=some (.cells cur e m)) (hbel:Below W.heap.size W A') :
  (∀ b,b<W.heap.size->S b∨∃ cur e m,B'.heap[b]?=some (.cells cur e m))/\Below W.heap.size W B':=by
 refine⟨fun b hlt=>(hold b hlt).imp id (fun ⟨cur,e,m,he⟩=>⟨cur,e,m,hkc b cur e m he⟩),hbel.trans ⟨hos.1,hos.2.1,hos.2.2,hsz,fun b hlt=>?_⟩⟩;rcases hold b hlt with h4|⟨cur,e,m,h4⟩
 ·exact hb b h4
 ·rw[hkc b cur e m h4,h4]
theorem KyG.loc (h:KyG W B F G tb next t A lab u cvv dvv S A') (hsz:A'.heap.size<=B'.heap.size) (hb:∀ b,S b->B'.heap[b]?=A'.heap[b]?) (hkc:∀ (b:Nat) (cur:Array Value) (e:TypeId) (m:Nat×Nat),A'.heap[b]?=some (Obj.cells cur e m)->B'.heap[b]?=some (Obj.cells cur e m))
  (hos:B'.os=A'.os/\B'.tape=A'.tape/\B'.output=A'.output):KyG W B F G tb next t A lab u cvv dvv S B':=by
 have htn:Tn (fun b=>¬ S b) A' B':=⟨⟨hos.1,hos.2.1,hos.2.2,hsz,fun b _ hn=>hb b (Classical.not_not.1 hn)⟩,fun b cur e m h1 _=>hkc b cur e m h1⟩;obtain⟨k1,k2⟩:=old_loc hb hkc hsz hos h.old h.bel;exact⟨h.tab.tn htn (fun b hn=>Classical.byContradiction fun hl=>hn (h.sup b hl).1),h.sup,hkc _ _ _ _ h.cv,hkc _ _ _ _ h.c1,hkc _ _ _ _ h.c2,hkc _ _ _ _ h.cf,hkc _ _ _ _ h.cg,h.s1,h.s2,k1,k2⟩
theorem KyX.loc (h:KyX W B A kc u S A') (hsz:A'.heap.size<=B'.heap.size) (hb:∀ b,S b->B'.heap[b]?=A'.heap[b]?) (hkc:∀ (b:Nat) (cur:Array Value) (e:TypeId) (m:Nat×Nat),A'.heap[b]?=some (Obj.cells cur e m)->B'.heap[b]?=some (Obj.cells cur e m))
  (hos:B'.os=A'.os/\B'.tape=A'.tape/\B'.output=A'.output):KyX W B A kc u S B':=by
 obtain⟨k1,k2⟩:=old_loc hb hkc hsz hos h.old h.bel;obtain⟨i,r1,r2⟩:=h.res;exact⟨⟨i,r1,hkc _ _ _ _ r2⟩,hkc _ _ _ _ h.c2,k1,k2⟩
theorem KyG.round (h:KyG W B F G tb next t A lab u cvv dvv S w1) (hin:InW S w1) (hb:Below w1.heap.size w1 w2) :
  ∃ S2,Grows S S2 w1/\InW S2 w2/\Chg S w1 w2/\KyG W B F G tb next t A lab u cvv dvv S2 w2:=by
 have hz:=hb.size;refine⟨fun b=>S b∨(w1.heap.size<=b/\b<w2.heap.size),fun b hb=>hb.imp id (fun h=>h.1),fun b hb=>?_,?_,h.tab.later hb,fun b hb=>⟨.inl (h.sup b hb).1,(h.sup b hb).2⟩,heap_on hb h.cv,heap_on hb h.c1,heap_on hb h.c2,heap_on hb h.cf,heap_on hb h.cg,.inl h.s1,.inl h.s2,fun b hlt=>?_,below_on h.bel hb⟩
 ·rcases hb with hb|hb
  ·have:=hin b hb;omega
  ·exact hb.2
 ·exact (Chg.of_below (S:=fun _=>False) hb).mono (fun _ _ h=>h.elim)
 ·rcases h.old b hlt with h5|⟨cur,e,m,h5⟩
  ·exact .inl (.inl h5)
  ·exact .inr ⟨cur,e,m,heap_on hb h5⟩
theorem KyG.found (h:KyG W B F G tb next t A lab u cvv dvv S w1) (hin:InW S w1) (hB:W.heap.size<=B) (hb:Below w1.heap.size w1 w2) {i:Int} (hi:byRow A kc u=some i) :
  ∃ S2,Grows S S2 w1/\InW S2 ((w2.setCell ⟨B+1,0,none⟩ (.int .i64 i)).setCell ⟨B+1+1,0,none⟩ (.bool true))/\Chg S w1 ((w2.setCell ⟨B+1,0,none⟩ (.int .i64 i)).setCell ⟨B+1+1,0,none⟩ (.bool true))/\KyX W B A kc u S2 ((w2.setCell ⟨B+1,0,none⟩ (.int .i64 i)).setCell ⟨B+1+1,0,none⟩ (.bool true)):=by
 obtain⟨S2,h1,h2,h3,h4⟩:=h.round hin hb;have k1:=heap_setCell_same w2 (B+1) 0 #[.int .i64 0] 3 (.int .i64 i) h4.c1;have k2:(w2.setCell ⟨B+1,0,none⟩ (.int .i64 i)).heap[B+1+1]?=_:=(heap_setCell_other w2 ⟨B+1,0,none⟩ (B+1+1) _ (by show B+1+1≠B+1;omega)).trans h4.c2;have k3:=heap_setCell_same (w2.setCell ⟨B+1,0,none⟩ (.int .i64 i)) (B+1+1) 0 #[.bool false] 4 (.bool true) k2;have k4:((w2.setCell ⟨B+1,0,none⟩ (.int .i64 i)).setCell ⟨B+1+1,0,none⟩ (.bool true)).heap[B+1]?=_:=(heap_setCell_other (w2.setCell ⟨B+1,0,none⟩ (.int .i64 i)) ⟨B+1+1,0,none⟩ (B+1) _ (by show B+1≠B+1+1;omega)).trans k1;have hsz:((w2.setCell ⟨B+1,0,none⟩ (.int .i64 i)).setCell ⟨B+1+1,0,none⟩ (.bool true)).heap.size=w2.heap.size:=(by simp);refine⟨S2,h1,fun b hb=>by rw[hsz];exact h2 b hb,(h3.setCell (p:=⟨B+1,0,none⟩) (fun _=>h.s1) _).setCell (p:=⟨B+1+1,0,none⟩) (fun _=>h.s2) _,⟨i,hi,k4⟩,k3,fun b hlt=>?_,(h4.bel.setCell (p:=⟨B+1,0,none⟩) (by show W.heap.size<=B+1;omega) _).setCell (p:=⟨B+1+1,0,none⟩) (by show W.heap.size<=B+1+1;omega) _⟩;rcases h4.old b hlt with h5|⟨cur,e,m,h5⟩
 ·exact .inl h5
 ·refine .inr ⟨cur,e,m,?_⟩;rw[heap_setCell_other (w2.setCell ⟨B+1,0,none⟩ (.int .i64 i)) ⟨B+1+1,0,none⟩ b _ (by show b≠B+1+1;omega),heap_setCell_other w2 ⟨B+1,0,none⟩ b _ (by show b≠B+1;omega)];exact h5
end
attribute [local go_sem] Oper.semAt_some
attribute [local go_sem] eql51n eql51f wide_fn wide_depth
theorem cell_ltQ {w:World} {a:Addr} {v:Value} (h:w.cell? a=some v):a.block<w.heap.size:=by
 rcases Nat.lt_or_ge a.block w.heap.size with h' | h'
 ·exact h'
 ·exfalso;simp[World.cell?,Array.getElem?_eq_none h'] at h
theorem dbykey_scan {W:World} {d:Nat} {ts:List T} {st:List DT} {O:Nat->Nat} (h:Dd W d ts st O) (hfew:AllFew ts) {j:Nat} (hj:j<ts.length) (hj':j<st.length) (hx:ts[j].nm.size<=maxLen) (hf:findT ts ts[j].nm=some ts[j]) (hk0:ts[j].key≠e0) {kc:Nat} (hkc:kc<ts[j].cols.length) (hix:ixC ts[j].cols ts[j].key=(kc:Int)) (u:T3) (hu:u.1≠0) :
  Calls Tryz.prog 88 #[(Value.pointer (some ⟨d,0,none⟩)),.string ts[j].nm,(Value.agg #[Value.int .i64 (u.1),Value.int .i64 (u.2.1),Value.string (u.2.2)])] W fun e w'=>e=.returned (.tuple #[.int .i64 ((byRow st[j].2.2 kc u).getD 0),.bool (byRow st[j].2.2 kc u).isSome])/\Below W.heap.size W w':=by
 have hb0:=below_alloc W (.cells #[.int .i64 u.1,.int .i64 u.2.1,.string u.2.2] 42);have k0:=heap_alloc_new W (.cells #[.int .i64 u.1,.int .i64 u.2.1,.string u.2.2] 42);have hb1:=below_alloc (W.alloc (.cells #[.int .i64 u.1,.int .i64 u.2.1,.string u.2.2] 42)) (.cells #[.int .i64 0] 3);have k1:=heap_alloc_new (W.alloc (.cells #[.int .i64 u.1,.int .i64 u.2.1,.string u.2.2] 42)) (.cells #[.int .i64 0] 3);have hb2:=below_alloc ((W.alloc (.cells #[.int .i64 u.1,.int .i64 u.2.1,.string u.2.2] 42)).alloc (.cells #[.int .i64 0] 3)) (.cells #[.bool false] 4);have k2:=heap_alloc_new ((W.alloc (.cells #[.int .i64 u.1,.int .i64 u.2.1,.string u.2.2] 42)).alloc (.cells #[.int .i64 0] 3)) (.cells #[.bool false] 4);have k0:=heap_on hb2 (heap_on hb1 k0);have k1:=heap_on hb2 k1;have hb2:=below_on (below_on hb0 hb1) hb2;obtain⟨w1,hw1⟩:∃ w1,((W.alloc (.cells #[.int .i64 u.1,.int .i64 u.2.1,.string u.2.2] 42)).alloc (.cells #[.int .i64 0] 3)).alloc (.cells #[.bool false] 4)=w1:=⟨_,rfl⟩;obtain⟨B,hB⟩:∃ B,W.heap.size=B:=⟨_,rfl⟩;simp only[World.size_alloc] at k1 k2;rw[hw1] at hb2 k0 k1 k2;rw[hB] at k0 k1 k2;have h1:Dd w1 d ts st O:=h.later hb2;have hs:=dschema_any (W:=w1) h1.dlt
 have hfi:Calls Tryz.prog 48 #[(Value.pointer (some ⟨d,0,none⟩)),.string ts[j].nm] w1 (GivesT (orT (findT ts ts[j].nm)) (hasT ts ts[j].nm) w1):=by
  obtain⟨mv,f,n0,q1,_⟩:=h1.own;exact sFind_any (x:=ts[j].nm) q1.p hfew
 have hok:hasT ts ts[j].nm=true:=(by rw[hasT_find,hf];rfl);rw[hf,hok,show orT (some ts[j])=ts[j] from rfl] at hfi;have HDD:Hid (∀ w,Below w1.heap.size w1 w->Dd w d ts st O):=Lib.hid (fun w hw=>h1.later hw);have HROWS:Hid (∀ w,Below w1.heap.size w1 w->Calls Tryz.prog 53 #[(Value.pointer (some ⟨d,0,none⟩)),.string ts[j].nm] w fun e w'=>e=.returned (Value.pointer (some ⟨st[j].1,0,none⟩))/\w'=w):=Lib.hid (fun w hw=>(h1.later hw).rows hj hx hj');obtain⟨lab,ht0,_⟩:=h.tab j hj hj';have hlW:∀ b,lab b≠0->b<W.heap.size:=ht0.lt;have HTB:Hid (∀ w,Below w1.heap.size w1 w->Tb w st[j].1 ts[j] st[j].2.1 st[j].2.2 lab):=Lib.hid (fun w hw=>(ht0.later hb2).later hw);have hlen:∀ a∈st[j].2.2,a.2.length=ts[j].cols.length:=(fun a ha=>ht0.len a ha);have hsrt:st[j].2.2.Pairwise (fun a b=>a.1<b.1):=(by obtain⟨i0,_,hi⟩:=ht0;exact hi.srt);obtain⟨t,ht⟩:∃ t,ts[j]=t:=⟨_,rfl⟩;obtain⟨sj,hsj⟩:∃ s,st[j]=s:=⟨_,rfl⟩;simp only[ht,hsj] at hs hfi HROWS HTB hlen hsrt hk0 hkc hix hx ⊢;obtain⟨tb,next,A⟩:=sj;dsimp only at HROWS HTB hlen hsrt ⊢;have HW:=Lib.hid (And.intro hw1 (And.intro hB (And.intro hb2 (And.intro k0 (And.intro k1 k2)))));have HA:=Lib.hid (And.intro hlen (And.intro hsrt (And.intro hlW (And.intro hkc hix))));obtain⟨res,hres⟩:∃ r,byRow A kc u=r:=⟨_,rfl⟩;rw[hres];have HRES:=Lib.hid hres;clear hw1 hB hb0 hb1 hb2 k0 k1 k2 h h1 hfew hf hok HDD ht0 hlen hsrt hlW hkc hix hres ht hsj hx;have hke:=nonempty hk0;have hub:(u.1==0)=false:=beq_eq_false_iff_ne.2 hu;refine (callsIn_wide (n:=0)).1 ?_;refine callsIn_of_wp_marks Tryz.func88 rfl trivial ?_ rfl;simp only[Tryz.ntmps88,List.size_toArray,List.length_cons,List.length_nil,Nat.reduceAdd,Nat.reduceSub,Array.replicate_succ,Array.replicate_zero,List.push_toArray,List.append_toArray,List.nil_append,List.cons_append];refine wpIn_wide.2 ?_;go_upto_region 1 with fail;rw[HW.out.1,HW.out.2.1]
 go_upto_region 2 with (first
  | (go_at_call 46;(with_reducible refine hs.mono ?_);rintro e w2 ⟨rfl,hw⟩;subst w2;clear hs)
  | (go_at_call 48;(with_reducible refine hfi.mono ?_);rintro e w3 ⟨p1,n1,c1,p2,n2,c2,rfl,_,hb3⟩;have hb4:=below_alloc w3 (.cells #[.string t.nm,.slice p1 n1 c1,.string t.key,.slice p2 n2 c2] 70);have ka:=heap_alloc_new w3 (.cells #[.string t.nm,.slice p1 n1 c1,.string t.key,.slice p2 n2 c2] 70);have H3:=Lib.hid (And.intro (below_on hb3 hb4) ka);clear hfi hb3 hb4 ka))
 obtain⟨w4,hw4⟩:∃ w4,w3.alloc (.cells #[.string t.nm,.slice p1 n1 c1,.string t.key,.slice p2 n2 c2] 70)=w4:=⟨_,rfl⟩;obtain⟨F,hF⟩:∃ F,w3.heap.size=F:=⟨_,rfl⟩;have hF4:F<w4.heap.size:=(by rw[<- hw4,<- hF,World.size_alloc];exact Nat.lt_succ_self _);rw[hw4,hF] at H3;rw[hw4,hF];clear hw4 hF;obtain⟨m0,m4⟩:=H3.out;have hrow:=HROWS.out w4 m0;have m1:=heap_on m0 HW.out.2.2.2.1;have z2:=nd_cell m4 2;have v0:=nd_cell m1 0;have l2:=lt_of_heap m4;have l3:=lt_of_heap m1;clear m0 m1 m4;go_upto_region 4 with fail;clear z2 v0 l2 l3;go_upto_region 5 with (go_at_call 53;(with_reducible refine hrow.mono ?_);rintro e w5 ⟨rfl,hw⟩;subst w5;clear hrow);have hb5:=below_alloc w4 (.cells #[(Value.pointer (some ⟨tb,0,none⟩))] 63);have k5:=heap_alloc_new w4 (.cells #[(Value.pointer (some ⟨tb,0,none⟩))] 63);obtain⟨w5,hw5⟩:∃ w5,w4.alloc (.cells #[(Value.pointer (some ⟨tb,0,none⟩))] 63)=w5:=⟨_,rfl⟩;obtain⟨G,hG⟩:∃ G,w4.heap.size=G:=⟨_,rfl⟩;rw[hw5] at hb5 k5;rw[hG] at k5;have hb15:=below_on H3.out.1 hb5
 have HC5:Hid (∀ w,Below w5.heap.size w5 w->w.heap[B]?=some (.cells #[.int .i64 u.1,.int .i64 u.2.1,.string u.2.2] 42)/\w.heap[B+1]?=some (.cells #[.int .i64 0] 3)/\w.heap[B+1+1]?=some (.cells #[.bool false] 4)/\w.heap[F]?=some (.cells #[.string t.nm,.slice p1 n1 c1,.string t.key,.slice p2 n2 c2] 70)/\w.heap[G]?=some (.cells #[(Value.pointer (some ⟨tb,0,none⟩))] 63)/\Below W.heap.size W w/\Tb w tb t next A lab):=Lib.hid (fun w hw=>by
  have hb:=below_on hb15 hw;exact⟨heap_on hb HW.out.2.2.2.1,heap_on hb HW.out.2.2.2.2.1,heap_on hb HW.out.2.2.2.2.2,heap_on hw (heap_on hb5 H3.out.2),heap_on hw k5,below_on HW.out.2.2.1 hb,HTB.out w hb⟩)
 rw[hw5,hG];have y1:=nd_cell k5 0;have yl:=lt_of_heap k5;have hlive:Calls Tryz.prog 72 #[(Value.pointer (some ⟨tb,0,none⟩))] w5 (IsV (idsP A) w5):=tb_live (HC5.out w5 (Below.refl _ _)).2.2.2.2.2.2;have hBW:W.heap.size=B:=HW.out.2.1;have hW5:W.heap.size<=w5.heap.size:=(HC5.out w5 (Below.refl _ _)).2.2.2.2.2.1.size;clear hb5 k5 hw5 hG hb15 hF4;refine (wpIn_wide (n:=0)).1 ?_
 gi_wp2_with (gi_at_call 72;refine callsIn_of_calls rfl ?_;(with_reducible refine hlive.mono ?_);rintro e w6 ⟨pl,nl,cl,rfl,hvl,hb6⟩)
 obtain⟨lr,hmv,hnl,hil⟩:=hvl;have h37:=all_any hmv;have hA:=ids_els hnl hil HA.out.2.1;have hc6:=Cell.new w6 (.slice pl nl cl) 113
 gi_wp2_with (gi_at_call 81;refine callsIn_of_calls rfl ?_;(with_reducible refine h37.mono ?_);rintro e w7 ⟨rfl,hw7⟩)
 obtain⟨c,hc⟩:∃ c,w6.heap.size=c:=⟨_,rfl⟩;obtain⟨xs,hxs⟩:∃ xs:List Int,A.map (·.1)=xs:=⟨_,rfl⟩;have hxl:xs.length=A.length:=(by rw[<- hxs,List.length_map]);rw[hc] at hc6
 try rw[hc]
 rw[hxs] at hA;have hb7:Below w6.heap.size w6 w7:=(by rw[hw7];exact below_alloc w6 _);have hz7:w7.heap.size=c+1:=(by rw[hw7];simp[hc]);rw[<- hw7] at hc6
 try rw[<- hw7]
 clear hw7 h37 hlive y1 yl;have hb57:Below w5.heap.size w5 w7:=below_on hb6 hb7;have hmv7:=hmv.later hb7;have hz5:w5.heap.size<=c:=(by have:=hb6.size;omega);obtain⟨a0,a1,a2,a3,a4,a5,a6⟩:=HC5.out w7 hb57;obtain⟨iT,o1,o2⟩:=a6;obtain⟨labU,u1,u2⟩:=o1.dropV hmv7
 have hown:∀ {b:Nat} {cur:Array Value} {e:TypeId} {m:Nat×Nat},w7.heap[b]?=some (Obj.cells cur e m)->e≠160->(Value.slice pl nl cl).ownBlock≠some b:=fun hb he e=>by
  obtain⟨_,cur,h1⟩:=HRow.block hmv7 _ e;rw[h1] at hb;simp only[Option.some.injEq,Obj.cells.injEq] at hb;exact he hb.2.1.symm
 have h0:KyG W B F G tb next t A labU u (.slice p1 n1 c1) (.slice p2 n2 c2) (fun b=>b<w7.heap.size/\b≠c/\(Value.slice pl nl cl).ownBlock≠some b) w7:=by
  have e1:=lt_of_heap (HC5.out w5 (Below.refl _ _)).2.1;have e2:=lt_of_heap (HC5.out w5 (Below.refl _ _)).2.2.1;refine⟨⟨iT,u1,o2⟩,fun b hb=>?_,a0,a1,a2,a3,a4,⟨by omega,by omega,hown a1 (by decide)⟩,⟨by omega,by omega,hown a2 (by decide)⟩,fun b hb=>?_,a5⟩
  ·obtain⟨k1,k2⟩:=u2 b hb;have k3:=HA.out.2.2.1 b k1;exact⟨⟨by omega,by omega,k2⟩,k3⟩
  ·by_cases e:(Value.slice pl nl cl).ownBlock=some b
   ·obtain⟨_,cur,h1⟩:=HRow.block hmv7 b e;exact .inr ⟨cur,_,_,h1⟩
   ·exact .inl ⟨by omega,by omega,e⟩
 have hgv:=Kc.all_gives c hnl w7 hmv7;rw[hA] at hgv;generalize hact:({ tmps:=_,defers:=_ }:Act)=act;have hvb:∀ b,(Value.slice pl nl cl).ownBlock=some b->b<w7.heap.size:=(fun b hb=>(HRow.lt hmv7 b hb).2);clear hb7 hmv hb57 u1 u2 o1 o2 hil hb6 a0 a1 a2 a3 a4 a5;refine (wpIn_wide (n:=0)).1 ?_;refine wpIn_block ?_
 refine Kc.wpIn_rangeFunc_sep (sv:=.func (.func 112) #[] #[(Value.pointer (some ⟨c,0,none⟩))]) (by rw[<- hact];rfl) hgv (fun _=>rfl)
  (fun k S w=>KyG W B F G tb next t A labU u (.slice p1 n1 c1) (.slice p2 n2 c2) S w/\∀ m (hm:m<A.length),m<k->A[m].2.getD kc z3≠u) (fun cd _ S w=>cd=.ret/\KyX W B A kc u S w) ?l1 ?l2 _ ?hS ?hM ?hSM ⟨hc6,hmv7⟩ ⟨h0,fun m _ hm=>absurd hm (Nat.not_lt_zero m)⟩
  (fun x=>{ tmps:=(act.tmps.setIfInBounds 35 ((Value.int .i64 (x)))).setIfInBounds 11 ((Value.int .i64 (x))),defers:=[] }) ?pre ?body ?done ?stop
 case l1=>exact fun k T A B h hin hsz hb hkc hos=>⟨h.1.loc hsz hb hkc hos,h.2⟩
 case l2=>exact fun cd k T A B h hin hsz hb hkc hos=>⟨h.1,h.2.loc hsz hb hkc hos⟩
 case hS=>exact fun b hb=>hb.1
 case hM =>
  rintro b (rfl|h)
  ·omega
  ·exact hvb b h
 case hSM =>
  rintro b hb (h|h)
  ·exact hb.2.1 h
  ·exact hb.2.2 h
 case pre =>
  intro l x W K hK;subst hact;dsimp only[enc1]
  gi_wp2
  exact hK
 case body =>
  rintro l k hk T W1 hin hchg ⟨hG,hno⟩;have hk':k<A.length:=(by rw[<- hxl];exact hk);have hxk:xs[k]=A[k].1:=(by simp only[<- hxs,List.getElem_map]);rw[hxk];have hAl:=HA.out.1 _ (List.getElem_mem hk');have hkA:kc<A[k].2.length:=(by rw[hAl];exact HA.out.2.2.2.1);obtain⟨v,hv⟩:∃ v,A[k].2[kc]=v:=⟨_,rfl⟩;have hvD:A[k].2.getD kc z3=v:=(by rw[List.getD_eq_getElem?_getD,List.getElem?_eq_getElem hkA,hv];rfl);have hget:=tb_get_yes hG.tab (List.getElem_mem hk') HA.out.2.2.2.1 HA.out.2.2.2.2 (by rw[List.getElem?_eq_getElem hkA,hv]);have heq:=(fun w=>veq_any v u w);obtain⟨ik,hik⟩:∃ i,A[k].1=i:=⟨_,rfl⟩;rw[hik] at hget ⊢;have y1:=nd_cell hG.cg 0;have y2:=nd_cell hG.cf 2;have y3:=lt_of_heap hG.cf;have HGG:=Lib.hid (And.intro hG (And.intro hin (And.intro hno (And.intro hk' (And.intro hvD hik)))));subst hact;dsimp only;clear hG hin hchg h0 hno hAl hkA hv hvD hik hxk
  gi_wp2_with (gi_at_call 118;refine callsIn_of_calls rfl ?_;(with_reducible refine hget.mono ?_);rintro e w8 ⟨rfl,hb8⟩;have v0:=nd_cell (heap_on hb8 HGG.out.1.cv) 0;have v1:=nd_cell (heap_on hb8 HGG.out.1.cv) 1;have v2:=nd_cell (heap_on hb8 HGG.out.1.cv) 2;have vl:=lt_of_heap (heap_on hb8 HGG.out.1.cv);have HB8:=Lib.hid (below_on hb8 (below_alloc w8 (.cells #[.int .i64 v.1,.int .i64 v.2.1,.string v.2.2] 42)));clear hb8 hget y1 y2 y3)
  by_cases hvu:v=u
  ·rw[decide_eq_true hvu] at heq;have HVU:=Lib.hid hvu;clear hvu
   gi_wp2_with (gi_at_call 120;refine callsIn_of_calls rfl ?_;(with_reducible refine (heq _).mono ?_);rintro e w9 ⟨rfl,hb9⟩;have HB9:=Lib.hid (below_on HB8.out hb9);have r0:=nd_cell (heap_on HB9.out HGG.out.1.c1) 0;have r1:=nd_cell (heap_on HB9.out HGG.out.1.c2) 0;have f0:=fun i=>frozen_of_row w9 (B+1) i _ _ (heap_on HB9.out HGG.out.1.c1);have f1:=fun i=>frozen_of_row w9 (B+1+1) i _ _ (heap_on HB9.out HGG.out.1.c2);have l0:=lt_of_heap (heap_on HB9.out HGG.out.1.c1);have l1:=lt_of_heap (heap_on HB9.out HGG.out.1.c2);clear hb9 heq v0 v1 v2 vl)
   obtain⟨hG,hin,hno,hk',hvD,hik⟩:=HGG.out;have hby:byRow A kc u=some ik:=(by rw[<- hik];exact byRow_some hk' (hvD.trans HVU.out) hno);obtain⟨S2,q1,q2,q3,q4⟩:=hG.found hin (Nat.le_of_eq hBW) HB9.out hby
   exact⟨S2,q1,q2,q3,rfl,q4⟩
  ·rw[decide_eq_false hvu] at heq;have HVU:=Lib.hid hvu;clear hvu
   gi_wp2_with (gi_at_call 120;refine callsIn_of_calls rfl ?_;(with_reducible refine (heq _).mono ?_);rintro e w9 ⟨rfl,hb9⟩;have HB9:=Lib.hid (below_on HB8.out hb9);clear hb9 heq v0 v1 v2 vl)
   obtain⟨hG,hin,hno,hk',hvD,hik⟩:=HGG.out;obtain⟨S2,q1,q2,q3,q4⟩:=hG.round hin HB9.out
   exact⟨S2,q1,q2,q3,q4,fun m hm hmk=>by
    by_cases em:m=k
    ·subst em;rw[hvD];exact HVU.out
    ·exact hno m hm (by omega)⟩
 case done =>
  rintro S' W' hg hi hch ⟨hG,hno⟩ hQ hK hnD;subst hact;have hby:byRow A kc u=none:=byRow_none (fun m hm=>hno m hm (by rw[hxl];exact hm));have r0:=nd_cell hG.c1 0;have r1:=nd_cell hG.c2 0;have f0:=(fun i=>frozen_of_row W' (B+1) i _ _ hG.c1);have f1:=(fun i=>frozen_of_row W' (B+1+1) i _ _ hG.c2);have l0:=lt_of_heap hG.c1;have l1:=lt_of_heap hG.c2;have HGG:=Lib.hid (And.intro hG (And.intro hK (And.intro hnD hby)));clear hG hg hi hch hQ hnD hno hK hby
  gi_wp2_with fail
  refine (wpIn_wide (n:=0)).1 ?_
  gi_wp2_with fail
  obtain⟨hG,hK,hnD,hby⟩:=HGG.out;obtain⟨y0,y1⟩:=set_two (u:=.int .i64 0) (v:=.bool false) hG.c1 hG.c2 (by omega);have hD1:W'.heap[w7.heap.size]?=some (.deferred (some [])):=hK;have hne1:w7.heap.size≠B+1:=(fun e=>by rw[e,hG.c1] at hK;cases hK);have hne2:w7.heap.size≠B+1+1:=fun e=>by rw[e,hG.c2] at hK;cases hK
  have hK2:((W'.setCell ⟨B+1,0,none⟩ (.int .i64 0)).setCell ⟨B+1+1,0,none⟩ (.bool false)).heap[w7.heap.size]?=some (.deferred (some [])):=by
   rw[heap_setCell_other (W'.setCell ⟨B+1,0,none⟩ (.int .i64 0)) ⟨B+1+1,0,none⟩ _ _ hne2,heap_setCell_other W' ⟨B+1,0,none⟩ _ _ hne1];exact hK
  have hbel:Below W.heap.size W ((W'.setCell ⟨B+1,0,none⟩ (.int .i64 0)).setCell ⟨B+1+1,0,none⟩ (.bool false)):=(hG.bel.setCell (p:=⟨B+1,0,none⟩) (by show W.heap.size<=B+1;omega) _).setCell (p:=⟨B+1+1,0,none⟩) (by show W.heap.size<=B+1+1;omega) _;generalize ((W'.setCell ⟨B+1,0,none⟩ (.int .i64 0)).setCell ⟨B+1+1,0,none⟩ (.bool false))=wz at y0 y1 hK2 hbel ⊢;refine post_markc (v:=.tuple #[.int .i64 0,.bool false]) hK2 (fun w' hch hsz=>?_);have e0':=(hch.block (B+1) (cell_ltQ y0) (fun e=>hne1 e.symm));have e1':=(hch.block (B+1+1) (cell_ltQ y1) (fun e=>hne2 e.symm));have z0:=(World.cell?_of_block (a:=⟨B+1,0,none⟩) e0').trans y0;have z1:=(World.cell?_of_block (a:=⟨B+1+1,0,none⟩) e1').trans y1;refine⟨by simp[results,Tryz.results88,go_sem,z0,z1],?_⟩;have hr:=HRES.out;rw[hby] at hr;subst hr;refine⟨rfl,hbel.trans (hch.below hbel.size (fun b hb e=>?_))⟩;omega
 case stop =>
  rintro cd k S' W' hk0 hkl hg hi hch ⟨rfl,hX⟩ hQ hK hnD;subst hact;have HGG:=Lib.hid (And.intro hX (And.intro hK hnD));clear hX hg hi hch hQ hnD hK
  gi_wp2_with fail
  obtain⟨hX,hK,hnD⟩:=HGG.out;obtain⟨i,hi1,hi2⟩:=hX.res;have y0:=nd_cell hi2 0;have y1:=nd_cell hX.c2 0;have hne1:w7.heap.size≠B+1:=(fun e=>by rw[e,hi2] at hK;cases hK);have hne2:w7.heap.size≠B+1+1:=(fun e=>by rw[e,hX.c2] at hK;cases hK);refine post_markc (v:=.tuple #[.int .i64 i,.bool true]) hK (fun w' hch hsz=>?_);have z0:=nd_cell ((hch.block (B+1) (lt_of_heap hi2) (fun e=>hne1 e.symm)).trans hi2) 0;have z1:=nd_cell ((hch.block (B+1+1) (lt_of_heap hX.c2) (fun e=>hne2 e.symm)).trans hX.c2) 0;refine⟨by simp[results,Tryz.results88,go_sem,z0,z1],?_⟩;have hr:=HRES.out;rw[hi1] at hr;subst hr;refine⟨rfl,hX.bel.trans (hch.below hX.bel.size (fun b hb e=>?_))⟩;omega
end Go.Proofs.YtgbkmjnnlkgpnaaGreat
namespace Go.Proofs.YtgbkmjnnlkgpnaaGreat
open Go Go.RowKit Go.Proofs Co Co.S
def Short (ts:List T):Prop:=∀ t∈ts,t.nm.size<=maxLen
abbrev rowsOf (st:List DT):List (List R1):=st.map (·.2.2)
section
variable {W:World} {d:Nat} {ts:List T} {st:List DT} {O:Nat->Nat}
theorem byKeyP_neg {As:List (List R1)} {x:ByteArray} {v:T3} (h:ixT ts x<0):byKeyP ts As x v=none:=by
 unfold byKeyP;split
 ·rw[if_pos h]
 ·rfl
theorem byKeyP_at {As:List (List R1)} {x:ByteArray} {v:T3} {j:Nat} (hj:j<ts.length) (hj':j<As.length) (h:ixT ts x=(j:Int)):byKeyP ts As x v=if ts[j].key=e0 then none else if v.1=0 then none else byRow As[j] (ixC ts[j].cols ts[j].key).toNat v:=by
 unfold byKeyP;rw[h];simp only[Int.toNat_natCast,List.getElem?_eq_getElem hj,List.getElem?_eq_getElem hj'];rw[if_neg (by omega)]
theorem Dd.sp (h:Dd W d ts st O):∃ mv,SchP mv W (Value.pointer (some ⟨d,0,none⟩)) ts:=by
 obtain⟨mv,f,n0,q1,_⟩:=h.own;exact⟨mv,q1.p⟩
theorem nm_of_find {x:ByteArray} {t:T} (h:findT ts x=some t):t.nm=x:=by
 have:=List.find?_some (l:=ts) (p:=isT x) h
 exact bytes_ext (by simpa [isT,eqS] using this)
theorem dbykey_any (h:Dd W d ts st O) (hi:InvQ ts) (hfew:AllFew ts) (hsz:Short ts) (x:ByteArray) (u:T3) :
  Calls Tryz.prog 88 #[(Value.pointer (some ⟨d,0,none⟩)),.string x,(Value.agg #[Value.int .i64 (u.1),Value.int .i64 (u.2.1),Value.string (u.2.2)])] W fun e w'=>e=.returned (.tuple #[.int .i64 ((byKeyP ts (rowsOf st) x u).getD 0),.bool (byKeyP ts (rowsOf st) x u).isSome])/\Below W.heap.size W w':=by
 have hds:∀ w,Below W.heap.size W w->Calls Tryz.prog 46 #[(Value.pointer (some ⟨d,0,none⟩))] w fun e w'=>e=.returned (Value.pointer (some ⟨d,0,none⟩))/\w'=w:=fun w hw=>dschema_any (h.later hw).dlt
 obtain⟨mv,hsp⟩:=h.sp;rcases ixT_cases ts x with ⟨h1,_,h3⟩ | ⟨j,hj,h1,_,h3⟩
 ·rw[byKeyP_neg (by omega)];exact dbykey_no hds hsp hfew (.inl (by rw[h3];rfl))
 ·have hj':j<st.length:=(by rw[h.len];exact hj);have hjr:j<(rowsOf st).length:=(by rw[List.length_map];exact hj');rw[byKeyP_at hj hjr h1];by_cases hk:ts[j].key=e0
  ·rw[if_pos hk];exact dbykey_no hds hsp hfew (.inl (by rw[h3];exact hk))
  ·rw[if_neg hk];by_cases hu:u.1=0
   ·rw[if_pos hu];exact dbykey_no hds hsp hfew (.inr hu)
   ·rw[if_neg hu];have hnm:=nm_of_find h3;have hg:=hi.key _ (List.getElem_mem hj)
    have hc:hasC ts[j].cols ts[j].key=true:=by
     unfold keyGood at hg;rw[Bool.or_eq_true] at hg;rcases hg with hg|hg
     ·rw[eqS_iff] at hg;exact absurd hg hk
     ·exact hg
    rcases ixC_casesQ ts[j].cols ts[j].key with ⟨_,h5,_⟩ | ⟨k,hk',h5,_⟩
    ·rw[h5] at hc;cases hc
    ·rw[h5]
     have:=dbykey_scan h hfew hj hj' (hsz _ (List.getElem_mem hj)) (by rw[hnm];exact h3) hk hk' h5 u hu
     rw[hnm] at this;simpa only[Int.toNat_natCast,rowsOf,List.getElem_map] using this
theorem tb_getc {tb next:Nat} {t:T} {A:List R1} {lab:Nat->Nat} (h:Tb W tb t next A lab) {id:Int} (hid:F64 id) {y:ByteArray} {k:Nat} (hk:k<t.cols.length) (hy:ixC t.cols y=(k:Int)) :
  Calls Tryz.prog 118 #[(Value.pointer (some ⟨tb,0,none⟩)),.int .i64 id,.string y] W fun e w'=>e=.returned (.tuple #[(Value.agg #[Value.int .i64 ((cellA A k id).1),Value.int .i64 ((cellA A k id).2.1),Value.string ((cellA A k id).2.2)]),.bool (hasId A id)])/\Below W.heap.size W w':=by
 cases hh:hasId A id with
 | false =>
  rw[cellA_no hh];exact tb_get_no h hid (.inl (hasId_no.1 hh))
 | true =>
  obtain⟨a,ha,rfl,hc⟩:=cellA_of hh;rw[hc];have hl:k<a.2.length:=(by rw[h.len a ha];exact hk);have e:a.2[k]?=some (a.2.getD k z3):=(by rw[List.getD_eq_getElem?_getD,List.getElem?_eq_getElem hl];rfl);exact tb_get_yes h ha hk hy e
theorem Dd.get (h:Dd W d ts st O) (hsz:Short ts) {x y:ByteArray} (hc:hasC (colsAt ts x) y=true):∃ tb,∀ w,Below W.heap.size W w ->
  (Calls Tryz.prog 53 #[(Value.pointer (some ⟨d,0,none⟩)),.string x] w fun e w'=>e=.returned (Value.pointer (some ⟨tb,0,none⟩))/\w'=w) /\
  ∀ id,F64 id->Calls Tryz.prog 118 #[(Value.pointer (some ⟨tb,0,none⟩)),.int .i64 id,.string y] w fun e w'=>e=.returned (.tuple #[(Value.agg #[Value.int .i64 ((cellP ts (rowsOf st) x id y).1),Value.int .i64 ((cellP ts (rowsOf st) x id y).2.1),Value.string ((cellP ts (rowsOf st) x id y).2.2)]),.bool (hasId (rowsAt ts (rowsOf st) x) id)])/\Below w.heap.size w w':=by
 obtain⟨j,hj,hnm,hix,hf,hca,k,hk,hkx⟩:=hasC_at hc;have hj':j<st.length:=by rw[h.len];exact hj
 have hr:rowsAt ts (rowsOf st) x=st[j].2.2:=by
  unfold rowsAt;rw[hix,Int.toNat_natCast,List.getElem?_map,List.getElem?_eq_getElem hj'];rfl
 refine⟨st[j].1,fun w hw=>⟨?_,fun id hid=>?_⟩⟩
 ·have:=(h.later hw).rows hj (hsz _ (List.getElem_mem hj)) hj'
  rw[hnm] at this;exact this
 ·obtain⟨lab,ht,_⟩:=(h.later hw).tab j hj hj'
  have:=tb_getc ht hid hk hkx
  unfold cellP;rw[hr,hca,hkx,Int.toNat_natCast];exact this
theorem Dd.f64 (h:Dd W d ts st O) {x:ByteArray} {i:Int} (hm:hasId (rowsAt ts (rowsOf st) x) i=true):F64 i:=by
 obtain⟨a,ha,rfl⟩:=hasId_mem.1 hm;unfold rowsAt at ha;rw[List.getElem?_map] at ha;cases hh:st[(ixT ts x).toNat]? with
 | none=>rw[hh] at ha;cases ha
 | some s =>
  rw[hh] at ha;obtain⟨hlt,rfl⟩:=List.getElem?_eq_some_iff.1 hh;obtain⟨lab,⟨i0,_,hinv⟩,_⟩:=h.tab _ (by rw[<- h.len];exact hlt) hlt;exact Tb.f64 hinv ha
end
