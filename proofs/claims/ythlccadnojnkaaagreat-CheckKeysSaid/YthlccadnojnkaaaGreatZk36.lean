import Derived.Test.YthlccadnojnkaaaGreatZk35
import Derived.Test.YthlccadnojnkaaaGreatZk2
set_option maxHeartbeats 8000000
set_option maxRecDepth 100000
namespace Go.Proofs.YthlccadnojnkaaaGreat
open Go Go.RowKit Go.Proofs Co Co.S
def Short (ts:List T):Prop:=∀ t∈ts,t.nm.size<=maxLen
abbrev rowsOf (st:List DT):List (List R1):=st.map (·.2.2)
section
variable {W:World} {d:Nat} {ts:List T} {st:List DT} {O:Nat->Nat}
theorem nO {As:List (List R1)} {x:ByteArray} {v:T3} (h:ixT ts x<0):byKeyP ts As x v=none:=by
 unfold byKeyP;split
 ·rw[if_pos h]
 rfl
theorem pR {As:List (List R1)} {x:ByteArray} {v:T3} {j:Nat} (hj:j<ts.length) (hj':j<As.length) (h:ixT ts x=(j:Int)):byKeyP ts As x v=if ts[j].key=e0 then none else if v.1=0 then none else byRow As[j] (ixC ts[j].cols ts[j].key).toNat v:=by
 unfold byKeyP;rw[h];simp only[Int.toNat_natCast,List.getElem?_eq_getElem hj,List.getElem?_eq_getElem hj'];rw[if_neg (by omega)]
theorem Dd.sp (h:Dd W d ts st O):∃ mv,SchP mv W (Value.pointer (some ⟨d,0,none⟩)) ts:=by
 obtain⟨mv,f,n0,q1,_⟩:=h.own;exact⟨mv,q1.p⟩
theorem iJ {x:ByteArray} {t:T} (h:findT ts x=some t):t.nm=x:=by
 have:=List.find?_some (l:=ts) (p:=isT x) h
 exact dQ (by simpa [isT,eqS] using this)
theorem iK (h:Dd W d ts st O) (hi:InvQ ts) (hfew:AllFew ts) (hsz:Short ts) (x:ByteArray) (u:T3) :
  Calls Tryz.prog 100 #[.pointer (some ⟨d,0,none⟩),.string x,.agg #[.int .i64 (u.1),.int .i64 (u.2.1),.string (u.2.2)]] W fun e w'=>e=.returned (.tuple #[.int .i64 ((byKeyP ts (rowsOf st) x u).getD 0),.bool (byKeyP ts (rowsOf st) x u).isSome])/\Below W.heap.size W w':=by
 have hds:∀ w,Below W.heap.size W w->Calls Tryz.prog 43 #[.pointer (some ⟨d,0,none⟩)] w fun e w'=>e=.returned (Value.pointer (some ⟨d,0,none⟩))/\w'=w:=fun w hw=>bF (h.later hw).dlt
 obtain⟨mv,hsp⟩:=h.sp;rcases bZ ts x with ⟨h1,_,h3⟩ | ⟨j,hj,h1,_,h3⟩
 ·rw[nO (by omega)];exact kH hds hsp hfew (.inl (by rw[h3];rfl))
 have hj':j<st.length:=(by rw[h.len];exact hj);have hjr:j<(rowsOf st).length:=(by rw[List.length_map];exact hj');rw[pR hj hjr h1];by_cases hk:ts[j].key=e0
 ·rw[if_pos hk];exact kH hds hsp hfew (.inl (by rw[h3];exact hk))
 rw[if_neg hk];by_cases hu:u.1=0
 ·rw[if_pos hu];exact kH hds hsp hfew (.inr hu)
 rw[if_neg hu];have hnm:=iJ h3;have hg:=hi.key _ (List.getElem_mem hj)
 have hc:hasC ts[j].cols ts[j].key=true:=by
  unfold keyGood at hg;rw[Bool.or_eq_true] at hg;rcases hg with hg|hg
  ·rw[eZ] at hg;exact absurd hg hk
  exact hg
 rcases cI ts[j].cols ts[j].key with ⟨_,h5,_⟩ | ⟨k,hk',h5,_⟩
 ·rw[h5] at hc;cases hc
 rw[h5]
 have:=uB h hfew hj hj' (hsz _ (List.getElem_mem hj)) (by rw[hnm];exact h3) hk hk' h5 u hu
 rw[hnm] at this;simpa only[Int.toNat_natCast,rowsOf,List.getElem_map] using this
theorem aFv {tb next:Nat} {t:T} {A:List R1} {lab:Nat->Nat} (h:Tb W tb t next A lab) {id:Int} (hid:F64 id) {y:ByteArray} {k:Nat} (hk:k<t.cols.length) (hy:ixC t.cols y=(k:Int)) :
  Calls Tryz.prog 132 #[.pointer (some ⟨tb,0,none⟩),.int .i64 id,.string y] W fun e w'=>e=.returned (.tuple #[(Value.agg #[Value.int .i64 ((cellA A k id).1),Value.int .i64 ((cellA A k id).2.1),Value.string ((cellA A k id).2.2)]),.bool (hasId A id)])/\Below W.heap.size W w':=by
 cases hh:hasId A id with
 | false =>
  rw[aDt hh];exact aBm h hid (.inl (nN.1 hh))
 | true =>
  obtain⟨a,ha,rfl,hc⟩:=aDs hh;rw[hc];have hl:k<a.2.length:=(by rw[h.len a ha];exact hk);have e:a.2[k]?=some (a.2.getD k z3):=(by rw[List.getD_eq_getElem?_getD,List.getElem?_eq_getElem hl];rfl);exact iC h ha hk hy e
theorem Dd.get (h:Dd W d ts st O) (hsz:Short ts) {x y:ByteArray} (hc:hasC (colsAt ts x) y=true):∃ tb,∀ w,Below W.heap.size W w ->
  (Calls Tryz.prog 62 #[.pointer (some ⟨d,0,none⟩),.string x] w fun e w'=>e=.returned (Value.pointer (some ⟨tb,0,none⟩))/\w'=w) /\
  ∀ id,F64 id->Calls Tryz.prog 132 #[.pointer (some ⟨tb,0,none⟩),.int .i64 id,.string y] w fun e w'=>e=.returned (.tuple #[(Value.agg #[Value.int .i64 ((cellP ts (rowsOf st) x id y).1),Value.int .i64 ((cellP ts (rowsOf st) x id y).2.1),Value.string ((cellP ts (rowsOf st) x id y).2.2)]),.bool (hasId (rowsAt ts (rowsOf st) x) id)])/\Below w.heap.size w w':=by
 obtain⟨j,hj,hnm,hix,hf,hca,k,hk,hkx⟩:=aFt hc;have hj':j<st.length:=by rw[h.len];exact hj
 have hr:rowsAt ts (rowsOf st) x=st[j].2.2:=by
  unfold rowsAt;rw[hix,Int.toNat_natCast,List.getElem?_map,List.getElem?_eq_getElem hj'];rfl
 refine⟨st[j].1,fun w hw=>⟨?_,fun id hid=>?_⟩⟩
 ·have:=(h.later hw).rows hj (hsz _ (List.getElem_mem hj)) hj'
  rw[hnm] at this;exact this
 obtain⟨lab,ht,_⟩:=(h.later hw).tab j hj hj'
 have:=aFv ht hid hk hkx
 unfold cellP;rw[hr,hca,hkx,Int.toNat_natCast];exact this
theorem Dd.f64 (h:Dd W d ts st O) {x:ByteArray} {i:Int} (hm:hasId (rowsAt ts (rowsOf st) x) i=true):F64 i:=by
 obtain⟨a,ha,rfl⟩:=kG.1 hm;unfold rowsAt at ha;rw[List.getElem?_map] at ha;cases hh:st[(ixT ts x).toNat]? with
 | none=>rw[hh] at ha;cases ha
 | some s =>
  rw[hh] at ha;obtain⟨hlt,rfl⟩:=List.getElem?_eq_some_iff.1 hh;obtain⟨lab,⟨i0,_,hinv⟩,_⟩:=h.tab _ (by rw[<- h.len];exact hlt) hlt;exact Tb.f64 hinv ha
end
end Go.Proofs.YthlccadnojnkaaaGreat
namespace Go.Proofs.YthlccadnojnkaaaGreat
open Go Go.RowKit Go.Proofs Co Co.S Par
theorem xS (w:World) (g:Nat) (a b c:Value):w.grownBy (((w.setCell ⟨g,0,none⟩ a).setCell ⟨g,1,none⟩ b).setCell ⟨g,2,none⟩ c) (some g) :=
 ⟨rfl,rfl,rfl,by simp[World.setCell],fun i _ hk=>by
  have h:i≠g:=(fun e=>hk (by rw[e]));rw[heap_setCell_other _ _ i _ h,heap_setCell_other _ _ i _ h,heap_setCell_other _ _ i _ h]⟩
structure JV (W:World) (B s:Nat) (E:Nat->Value) (u:T3) (l:Nat->Bool) (vs:Nat->Value) (w:World):Prop where
 bel:Below W.heap.size W w
 ev:∀ j,j≠s->l j=true->vs j=E j
 own:∃ x0 x1 x2,w.heap[B]?=some (.cells #[x0,x1,x2] 32)/\(l s=true->x0=.int .i64 u.1/\x1=.int .i64 u.2.1/\x2=.string u.2.2)
section
variable {W w w':World} {B s:Nat} {E:Nat->Value} {u:T3} {l:Nat->Bool} {vs:Nat->Value}
theorem JV.up (h:JV W B s E u l vs w) (i:Nat) (hi:i≠s):JV W B s E u (upB l i) (upV vs i (E i)) w:=by
 refine⟨h.bel,fun j hj hl=>?_,?_⟩
 ·by_cases e:j=i
  ·subst e;rw[aS]
  rw[aJ e];rw[aI e] at hl;exact h.ev j hj hl
 obtain⟨x0,x1,x2,h1,h2⟩:=h.own;exact⟨x0,x1,x2,h1,fun hl=>h2 (by rwa [aI (fun e=>hi e.symm)] at hl)⟩
theorem JV.call (h:JV W B s E u l vs w) (hb:Below w.heap.size w w') (i:Nat) (hi:i≠s):JV W B s E u (upB l i) (upV vs i (E i)) w':=by
 have h':JV W B s E u l vs w':=by
  obtain⟨x0,x1,x2,h1,h2⟩:=h.own;exact⟨aB h.bel hb,h.ev,x0,x1,x2,aE hb h1,h2⟩
 exact h'.up i hi
theorem JV.store (h:JV W B s E u l vs w) (hB:W.heap.size<=B) (v:Value):JV W B s E u (upB l s) (upV vs s v) (((w.setCell ⟨B,0,none⟩ (.int .i64 u.1)).setCell ⟨B,1,none⟩ (.int .i64 u.2.1)).setCell ⟨B,2,none⟩ (.string u.2.2)):=by
 obtain⟨x0,x1,x2,h1,h2⟩:=h.own;refine⟨bL h.bel hB _ _ _,fun j hj hl=>?_,_,_,_,jT h1 _ _ _,fun _=>⟨rfl,rfl,rfl⟩⟩;rw[aJ hj];rw[aI hj] at hl;exact h.ev j hj hl
theorem JV.box (h:JV W B s E u l vs w):B<w.heap.size/\(∀ j,w.frozen? ⟨B,j,none⟩=false)/\(∃ v,w.cell? ⟨B,0,none⟩=some v)/\(∃ v,w.cell? ⟨B,1,none⟩=some v)/\∃ v,w.cell? ⟨B,2,none⟩=some v:=by
 obtain⟨x0,x1,x2,h1,_⟩:=h.own;exact⟨aC h1,fun j=>frozen_of_row w B j _ _ h1,⟨_,aA h1 0⟩,⟨_,aA h1 1⟩,⟨_,aA h1 2⟩⟩
end
end Go.Proofs.YthlccadnojnkaaaGreat
namespace Go.Proofs.YthlccadnojnkaaaGreat
open Go Go.RowKit Go.Proofs Co Co.S
theorem xT {W:World} {d:Nat} {ts:List T} {st:List DT} {O:Nat->Nat} (h:Dd W d ts st O) (hi:InvQ ts) (hfew:AllFew ts) (hsz:Short ts) {v:Value} {x:ByteArray} {id:Int} {p:List ByteArray} (hid:F64 id) (hp:Wd W v p) (hok:(pcolL ts x p).2.2=0) :
  Calls Tryz.prog 99 #[.pointer (some ⟨d,0,none⟩),.string x,.int .i64 id,v] W fun e w'=>e=.returned (.tuple #[(Value.agg #[Value.int .i64 ((valueP ts (rowsOf st) x id p).1.1),Value.int .i64 ((valueP ts (rowsOf st) x id p).1.2.1),Value.string ((valueP ts (rowsOf st) x id p).1.2.2)]),.bool (valueP ts (rowsOf st) x id p).2])/\Below W.heap.size W w':=by
 have hb1:=aD W (.cells #[.int .i64 0,.int .i64 0,.string e0] 32);have k1:=heap_alloc_new W (.cells #[.int .i64 0,.int .i64 0,.string e0] 32);obtain⟨w1,hw1⟩:∃ w1,W.alloc (.cells #[.int .i64 0,.int .i64 0,.string e0] 32)=w1:=⟨_,rfl⟩;obtain⟨B,hB⟩:∃ B,W.heap.size=B:=⟨_,rfl⟩;rw[hw1] at hb1 k1;rw[hB] at k1;have h1:Dd w1 d ts st O:=h.later hb1;have hp1:=hp.later hb1;have hs:=bF (W:=w1) h1.dlt;obtain⟨mv,hsp⟩:=h1.sp;have hc:=lI (tb:=x) hsp hp1;obtain⟨cc,hcc⟩:∃ e,pcolL ts x p=e:=⟨_,rfl⟩
 have hlen:1<=p.length/\p.length<=4:=by
  unfold pcolL at hok;split at hok
  ·exact absurd hok (by decide)
  omega
 have hok0:(pcol ts x (p.drop 0)).2.2=0:=by
  unfold pcolL at hok;rw[if_neg (by omega)] at hok;exact hok
 obtain⟨n,hn⟩:∃ n,p.length=n:=⟨_,rfl⟩;obtain⟨q,cap,rfl,hcap,hm⟩:=hp1.slice;obtain⟨bp,off,rfl,hbp,hcw0⟩:=Wd.word hp1 (i:=0) (by omega);rw[hok] at hc;rw[hcc] at hc;obtain⟨⟨nm,kd,mu,tg⟩,s2,er⟩:=cc;dsimp only at hc;rw[show colVQ ⟨nm,kd,mu,tg⟩=.agg #[.string nm,.int .i64 kd,.bool mu,.string tg] from rfl] at hc;have hcol0:=(aAe (by omega:0<p.length) hok0).1
 have HWORD:Hid (∀ w,Below W.heap.size W w->∀ j (hj:j<p.length),w.cell? ⟨bp,off+j,none⟩=some (.string p[j])/\bp<w.heap.size):=qAq (fun w hw j hj=>by
  obtain⟨b',o',e,h1,h2⟩:=Wd.word (hp.later hw) hj;cases e;exact⟨h2,h1⟩)
 have HD:Hid (∀ w,Below W.heap.size W w->Dd w d ts st O):=qAq (fun w hw=>h.later hw);have HF:Hid (InvQ ts/\AllFew ts/\Short ts/\F64 id/\p.length=n/\1<=n/\n<=4/\(pcolL ts x p).2.2=0/\(pcol ts x (p.drop 0)).2.2=0/\hasC (colsAt ts x) (p[0]'(by omega))=true):=qAq ⟨hi,hfew,hsz,hid,hn,by omega,by omega,hok,hok0,hcol0⟩;have HW:=qAq (qBq hw1 (qBq hB (qBq hb1 k1)));obtain⟨tb,HGET⟩:=h.get hsz hcol0;obtain⟨y0,hy0⟩:∃ y,p[0]'(by omega)=y:=⟨_,rfl⟩;rw[hy0] at HGET;obtain⟨u0,hu0⟩:∃ u,cellP ts (rowsOf st) x id y0=u:=⟨_,rfl⟩;obtain⟨ok,hokr⟩:∃ b,hasId (rowsAt ts (rowsOf st) x) id=b:=⟨_,rfl⟩
 have HG:Hid (∀ w,Below W.heap.size W w->(Calls Tryz.prog 62 #[.pointer (some ⟨d,0,none⟩),.string x] w fun e w'=>e=.returned (Value.pointer (some ⟨tb,0,none⟩))/\w'=w)/\Calls Tryz.prog 132 #[.pointer (some ⟨tb,0,none⟩),.int .i64 id,.string y0] w fun e w'=>e=.returned (.tuple #[(Value.agg #[Value.int .i64 (u0.1),Value.int .i64 (u0.2.1),Value.string (u0.2.2)]),.bool ok])/\Below w.heap.size w w'):=qAq (fun w hw=>by
  have hg:=(HGET w hw).2 id hid;rw[hu0,hokr] at hg;exact⟨(HGET w hw).1,hg⟩)
 have HV:Hid (∀ r,(if ok=true then (valP ts (rowsOf st) x id p,true) else (z3,false))=r->valueP ts (rowsOf st) x id p=r):=qAq (fun r hr=>by
  rw[<- hr];unfold valueP;by_cases e:ok=true
  ·rw[if_pos ⟨hok,by rw[hokr];exact e⟩,if_pos e]
  rw[if_neg (fun h=>e (by rw[<- hokr];exact h.2)),if_neg e])
 have HY0:Hid (p[0]'(by omega)=y0/\hasId (rowsAt ts (rowsOf st) x) id=ok):=qAq ⟨hy0,hokr⟩;have hn0:(0:Int)<(n:Int):=(by omega);have hnn:0<n:=(by omega);rw[hn] at hc;rw[hn] at hcap;obtain⟨res,hres⟩:∃ r,valueP ts (rowsOf st) x id p=r:=⟨_,rfl⟩;rw[hres,hn];have HRES:=qAq hres;clear hcw0;clear hw1 hB hb1 k1 h h1 hp hp1 hsp hcc hok0 hcol0 hy0 hu0 hokr hi hfew hsz hid hok HGET hres;unfold maxLen at hm;go_enter Tryz.func99,Tryz.ntmps99;go_upto_region 1 with fail;rw[HW.out.1,HW.out.2.1]
 go_upto_region 2 with (first
  | (go_at_call 43;(with_reducible refine hs.mono ?_);rintro e w2 ⟨rfl,hw⟩;subst w2;clear hs)
  | (go_at_call 131;(with_reducible refine hc.mono ?_);rintro e w3 ⟨rfl,hb3⟩;have hb4:=aD w3 (.cells #[.string nm,.int .i64 kd,.bool mu,.string tg] 95);have H3:=qAq (aB HW.out.2.2.1 (aB hb3 hb4));have HZ3:=qAq (aE hb3 HW.out.2.2.2);clear hc hb3 hb4))
 have hz4:=aE (aD w3 (.cells #[.string nm,.int .i64 kd,.bool mu,.string tg] 95)) HZ3.out;have HZ4:=qAq hz4;clear hz4;generalize w3.alloc _=w4 at H3 HZ4 ⊢;go_upto_region 4 with fail;refine Par.wp_region_box 14 11 12 9 (w4.heap.size) 32 (#[.int .i64 0,.int .i64 0,.string e0]) (Par.aggC) (fun y=>Below w4.heap.size w4 y) (Par.VBL [(.eq (Value.pointer (some ⟨d,0,none⟩))),(.eq (.string x)),(.eq (Value.pointer (some ⟨tb,0,none⟩))),(.eq (.int .i64 id)),(.eq (.slice (some ⟨bp,off,none⟩) n cap)),(.eq (Value.pointer (some ⟨bp,off,none⟩))),(.eq (.string y0)),(.eq (.tuple #[(Value.agg #[Value.int .i64 (u0.1),Value.int .i64 (u0.2.1),Value.string (u0.2.2)]),.bool ok])),(.eq (.tuple #[(Value.agg #[Value.int .i64 (u0.1),Value.int .i64 (u0.2.1),Value.string (u0.2.2)]),.bool ok])),(.eq (Value.agg #[Value.int .i64 (u0.1),Value.int .i64 (u0.2.1),Value.string (u0.2.2)])),(.eq (.bool ok)),(.any),(.any),(.eq (.bool ok))]) ?A1 ?hm1 ?hB1 (fun w w' h ht=>h.trans ht.below) (Par.VBL.mono _) (fun w h=>h.size) ?hA1 ((aF w4)) (by decide) (by decide) (by decide) (by kernel_rfl) (by kernel_rfl) (by decide) ?hop1 ?hT1
 case hm1=>kernel_rfl
 case hB1=>kernel_rfl
 case hA1 =>
  intro vs;simp only[Par.putA,Par.dstAt,Act.put,qDq,qEq,qFq,qLq,qGq,qHq,qIq];rfl
 case hop1 =>
  have hkd:(List.range 14).map (Par.kdOf 11 12)=[.val,.val,.val,.val,.val,.val,.val,.val,.val,.val,.val,.new,.put,.val]:=rfl;simp only[hkd,qMq,List.take_zero,Par.GiveAllB,and_true];refine⟨fun vs w hK hd=>?_,fun vs w hK hd=>?_,fun vs w hK hd=>?_,fun vs w hK hd=>?_,fun vs w hK hd=>?_,fun vs w hK hd=>?_,fun vs w hK hd=>?_,fun vs w hK hd=>?_,fun vs w hK hd=>?_,fun vs w hK hd=>?_,fun vs w hK hd=>?_,fun vs w hK=>?_,fun vs w g hK hd a hz=>?_,fun vs w hK hd=>?_⟩
  ·clear hd;simp only[Par.GivesW];go_simp;all_goals exact⟨rfl,Below.refl _ _⟩
  ·clear hd;simp only[Par.GivesW];go_simp;all_goals exact⟨rfl,Below.refl _ _⟩
  ·have d0:=hd 0 (by decide) (by decide) (by decide) (by kernel_rfl);replace d0:vs 0=(Value.pointer (some ⟨d,0,none⟩)):=d0;have d1:=hd 1 (by decide) (by decide) (by decide) (by kernel_rfl);replace d1:vs 1=(.string x):=d1;clear hd;simp only[Par.GivesW,d0,d1];go_simp;exact ((HG.out w (aB H3.out hK)).1).mono (fun e w'' h=>⟨_,h.1,⟨rfl,h.2▸Below.refl _ _⟩⟩)
  ·clear hd;simp only[Par.GivesW];go_simp;all_goals exact⟨rfl,Below.refl _ _⟩
  ·clear hd;simp only[Par.GivesW];go_simp;all_goals exact⟨rfl,Below.refl _ _⟩
  ·have d4:=hd 4 (by decide) (by decide) (by decide) (by kernel_rfl);replace d4:vs 4=(.slice (some ⟨bp,off,none⟩) n cap):=d4;clear hd;simp only[Par.GivesW,d4];go_simp;all_goals exact⟨rfl,Below.refl _ _⟩
  ·have d5:=hd 5 (by decide) (by decide) (by decide) (by kernel_rfl);replace d5:vs 5=(Value.pointer (some ⟨bp,off,none⟩)):=d5;have k:=((HWORD.out w (aB H3.out hK)) 0 (by rw[HF.out.2.2.2.2.1];exact hnn));rw[HY0.out.1] at k;rw[Nat.add_zero] at k;have k0:=k.1;have k1:=k.2;clear k;clear hd;simp only[Par.GivesW,d5];go_simp;all_goals exact⟨rfl,Below.refl _ _⟩
  ·have d2:=hd 2 (by decide) (by decide) (by decide) (by kernel_rfl);replace d2:vs 2=(Value.pointer (some ⟨tb,0,none⟩)):=d2;have d3:=hd 3 (by decide) (by decide) (by decide) (by kernel_rfl);replace d3:vs 3=(.int .i64 id):=d3;have d6:=hd 6 (by decide) (by decide) (by decide) (by kernel_rfl);replace d6:vs 6=(.string y0):=d6;clear hd;simp only[Par.GivesW,d2,d3,d6];go_simp;exact ((HG.out w (aB H3.out hK)).2).mono (fun e w'' h=>⟨_,h.1,⟨rfl,h.2⟩⟩)
  ·have d7:=hd 7 (by decide) (by decide) (by decide) (by kernel_rfl);replace d7:vs 7=(.tuple #[(Value.agg #[Value.int .i64 (u0.1),Value.int .i64 (u0.2.1),Value.string (u0.2.2)]),.bool ok]):=d7;clear hd;simp only[Par.GivesW,d7];go_simp;all_goals exact⟨rfl,Below.refl _ _⟩
  ·have d8:=hd 8 (by decide) (by decide) (by decide) (by kernel_rfl);replace d8:vs 8=(.tuple #[(Value.agg #[Value.int .i64 (u0.1),Value.int .i64 (u0.2.1),Value.string (u0.2.2)]),.bool ok]):=d8;clear hd;simp only[Par.GivesW,d8];go_simp;all_goals exact⟨rfl,Below.refl _ _⟩
  ·have d8:=hd 8 (by decide) (by decide) (by decide) (by kernel_rfl);replace d8:vs 8=(.tuple #[(Value.agg #[Value.int .i64 (u0.1),Value.int .i64 (u0.2.1),Value.string (u0.2.2)]),.bool ok]):=d8;clear hd;simp only[Par.GivesW,d8];go_simp;all_goals exact⟨rfl,Below.refl _ _⟩
  ·clear hK;simp only[Par.GivesW];go_simp;all_goals exact⟨rfl,rfl⟩
  ·have d9:=hd 9 (by decide) (by decide) (by decide) (by kernel_rfl);replace d9:vs 9=(Value.agg #[Value.int .i64 (u0.1),Value.int .i64 (u0.2.1),Value.string (u0.2.2)]):=d9;have z0:=aA hz 0;have z1:=aA hz 1;have z2:=aA hz 2;have zf:=(fun i=>frozen_of_row w g i _ _ hz);have zl:=aC hz;have HZ:=qAq hz;clear hK hd hz;simp only[Par.GivesW,a,d9];go_simp;exact⟨xS w g _ _ _,jT HZ.out _ _ _⟩
  have d10:=hd 10 (by decide) (by decide) (by decide) (by kernel_rfl);replace d10:vs 10=(.bool ok):=d10;clear hd;simp only[Par.GivesW,d10];go_simp;all_goals exact⟨rfl,Below.refl _ _⟩
 intro vs w' g hK hV a hBg hz;simp only[qNq,List.drop_nil];have d0:=hV 0 (by decide) (by decide) (by decide);replace d0:vs 0=(Value.pointer (some ⟨d,0,none⟩)):=d0;have d1:=hV 1 (by decide) (by decide) (by decide);replace d1:vs 1=(.string x):=d1;have d2:=hV 2 (by decide) (by decide) (by decide);replace d2:vs 2=(Value.pointer (some ⟨tb,0,none⟩)):=d2;have d3:=hV 3 (by decide) (by decide) (by decide);replace d3:vs 3=(.int .i64 id):=d3;have d4:=hV 4 (by decide) (by decide) (by decide);replace d4:vs 4=(.slice (some ⟨bp,off,none⟩) n cap):=d4;have d5:=hV 5 (by decide) (by decide) (by decide);replace d5:vs 5=(Value.pointer (some ⟨bp,off,none⟩)):=d5;have d6:=hV 6 (by decide) (by decide) (by decide);replace d6:vs 6=(.string y0):=d6;have d7:=hV 7 (by decide) (by decide) (by decide);replace d7:vs 7=(.tuple #[(Value.agg #[Value.int .i64 (u0.1),Value.int .i64 (u0.2.1),Value.string (u0.2.2)]),.bool ok]):=d7;have d8:=hV 8 (by decide) (by decide) (by decide);replace d8:vs 8=(.tuple #[(Value.agg #[Value.int .i64 (u0.1),Value.int .i64 (u0.2.1),Value.string (u0.2.2)]),.bool ok]):=d8;have d9:=hV 9 (by decide) (by decide) (by decide);replace d9:vs 9=(Value.agg #[Value.int .i64 (u0.1),Value.int .i64 (u0.2.1),Value.string (u0.2.2)]):=d9;have d10:=hV 10 (by decide) (by decide) (by decide);replace d10:vs 10=(.bool ok):=d10;have d13:=hV 13 (by decide) (by decide) (by decide);replace d13:vs 13=(.bool ok):=d13;clear hV;rw[d9] at hz;simp only[a,d0,d1,d2,d3,d4,d5,d6,d7,d8,d9,d10,d13];clear a d0 d1 d2 d3 d4 d5 d6 d7 d8 d9 d10 d13;have hz5:w'.heap[B]?=some (.cells #[.int .i64 0,.int .i64 0,.string e0] 32):=aE hK HZ4.out;have H5:=qAq (aB H3.out hK);have HZ5:=qAq hz5;obtain⟨w5,rfl⟩:∃ x,x=w':=⟨_,rfl⟩;clear hK hz hBg hz5
 have FIN:Hid (∀ (w wz:World) (a b c:Value),Below W.heap.size W w->w.heap[B]?=some (.cells #[.int .i64 0,.int .i64 0,.string e0] 32)->((w.setCell ⟨B,0,none⟩ a).setCell ⟨B,1,none⟩ b).setCell ⟨B,2,none⟩ c=wz ->
   wz.cell? ⟨B,0,none⟩=some a/\wz.cell? ⟨B,1,none⟩=some b/\wz.cell? ⟨B,2,none⟩=some c/\Below W.heap.size W wz):=qAq (fun w wz a b c hb hz e=>by
  subst e;have h3:=jT hz a b c;exact⟨aA h3 0,aA h3 1,aA h3 2,bL hb (Nat.le_of_eq HW.out.2.1) _ _ _⟩)
 have CELLS:Hid (∀ (w:World),w.heap[B]?=some (.cells #[.int .i64 0,.int .i64 0,.string e0] 32)->B<w.heap.size/\w.cell? ⟨B,0,none⟩=some (.int .i64 0)/\w.cell? ⟨B,1,none⟩=some (.int .i64 0)/\w.cell? ⟨B,2,none⟩=some (.string e0)/\∀ i,w.frozen? ⟨B,i,none⟩=false):=qAq (fun w hz =>
  ⟨aC hz,aA hz 0,aA hz 1,aA hz 2,fun i=>frozen_of_row w B i _ _ hz⟩)
 cases ok with
 | false =>
  obtain⟨zl,z0,z1,z2,zf⟩:=CELLS.out _ HZ5.out;obtain rfl:res=(z3,false):=HRES.out.symm.trans (HV.out _ rfl);go_wp2_with fail;generalize hwz:((World.setCell _ _ _).setCell _ _).setCell _ _=wz;obtain⟨y0,y1,y2,hBz⟩:=FIN.out _ _ _ _ _ H5.out HZ5.out hwz;refine bodyPost_ret (v:=.tuple #[(Value.agg #[Value.int .i64 (0),Value.int .i64 (0),Value.string (e0)]),.bool false]) (by simp[results,Tryz.results99,go_sem,y0,y1,y2]) rfl ?_;exact⟨rfl,hBz⟩
 | true =>
  have hres1:(valP ts (rowsOf st) x id (p.drop 0),true)=res:=(HV.out _ rfl).symm.trans HRES.out;have HR1:=qAq hres1;clear hres1 HV HRES;obtain⟨k,rfl⟩:∃ k,n=k+1:=⟨n-1,by omega⟩;have hlast:((k:Int)+1)-1=(k:Int):=(by omega);go_wp2_with fail;go_loopg [1,2,57] (k+1) (fun gh xv iv jv w=>∃ (j:Nat) (xx:ByteArray) (ii:Int),jv=.int .i64 (j:Int)/\xv=.string xx/\iv=.int .i64 ii/\j<=k/\k+1<=j+gh/\(pcol ts xx (p.drop j)).2.2=0/\hasId (rowsAt ts (rowsOf st) xx) ii=true/\F64 ii/\(valP ts (rowsOf st) xx ii (p.drop j),true)=res/\Below W.heap.size W w/\w.heap[B]?=some (.cells #[.int .i64 0,.int .i64 0,.string e0] 32))
  case atStart=>exact⟨0,x,id,rfl,rfl,rfl,Nat.zero_le _,by omega,HF.out.2.2.2.2.2.2.2.2.1,HY0.out.2,HF.out.2.2.2.1,HR1.out,H5.out,HZ5.out⟩
  case round =>
   obtain⟨j,xx,ii,rfl,rfl,rfl,hj,hg,hpc,hhas,hii,hval,hB,hZ⟩:=hrel;have HN:=qAq hn;have hjp:j<p.length:=(by omega);obtain⟨hcol,hnext⟩:=aAe hjp hpc;obtain⟨tb2,HGET2⟩:=(HD.out W (Below.refl _ _)).get HF.out.2.2.1 hcol;obtain⟨y,hy⟩:∃ y,p[j]=y:=⟨_,rfl⟩;rw[hy] at hcol HGET2;obtain⟨u,hu⟩:∃ u,cellP ts (rowsOf st) xx ii y=u:=⟨_,rfl⟩;have HY:=qAq hy
   have HG2:Hid (∀ w,Below W.heap.size W w->(Calls Tryz.prog 62 #[.pointer (some ⟨d,0,none⟩),.string xx] w fun e w'=>e=.returned (Value.pointer (some ⟨tb2,0,none⟩))/\w'=w)/\Calls Tryz.prog 132 #[.pointer (some ⟨tb2,0,none⟩),.int .i64 ii,.string y] w fun e w'=>e=.returned (.tuple #[(Value.agg #[Value.int .i64 (u.1),Value.int .i64 (u.2.1),Value.string (u.2.2)]),.bool true])/\Below w.heap.size w w'):=qAq (fun w hw=>by
    have hg:=(HGET2 w hw).2 ii hii;rw[hu,hhas] at hg;exact⟨(HGET2 w hw).1,hg⟩)
   clear HGET2;by_cases hlt:j<k
   ·have hji:(j:Int)<(k:Int):=(by omega);have hw0:=HWORD.out wr hB j hjp;rw[hy] at hw0;obtain⟨hw1,hw2⟩:=hw0;obtain⟨mv2,hsp2⟩:=(HD.out wr hB).sp;have hsc:=tQ (x:=xx) (c:=y) hsp2;obtain⟨c2,hc2⟩:∃ c,orC (colOf (orT (findT ts xx)).cols y)=c:=⟨_,rfl⟩;have htg:c2.tgt=tgtOf ts xx y:=(by rw[<- hc2];rfl);have hhc:hasC (orT (findT ts xx)).cols y=true:=hcol;rw[hc2,hhc] at hsc;obtain⟨nm2,kd2,mu2,tg2⟩:=c2;rw[show colVQ ⟨nm2,kd2,mu2,tg2⟩=.agg #[.string nm2,.int .i64 kd2,.bool mu2,.string tg2] from rfl] at hsc;have htg2:tg2=tgtOf ts xx y:=htg;have hnx:=hnext (by omega);rw[hy,<- htg2] at hnx;have hbk:=(fun w (hb:Below W.heap.size W w)=>iK (HD.out w hb) HF.out.1 HF.out.2.1 HF.out.2.2.1 tg2 u);obtain⟨rr,hrr⟩:∃ r,byKeyP ts (rowsOf st) tg2 u=r:=⟨_,rfl⟩;rw[hrr] at hbk
    have hvn:rr=none->(z3,true)=res:=fun e=>by
     rw[<- hval,aBC hjp (by omega) (by rw[hy,hu,<- htg2,hrr];exact e)]
    have hvs:∀ i,rr=some i->(valP ts (rowsOf st) tg2 i (p.drop (j+1)),true)=res/\hasId (rowsAt ts (rowsOf st) tg2) i=true/\F64 i:=fun i e=>by
     have hm:=xQ (hrr.trans e);refine⟨?_,hm,(HD.out wr hB).f64 hm⟩;rw[<- hval,aBD hjp (by omega) (by rw[hy,hu,<- htg2,hrr];exact e),hy,<- htg2]
    have HV2:=qAq (qBq hvn (qBq hvs hnx));have HBK:=qAq hbk;have HBZ:=qAq (qBq hB hZ);clear hpc hhas hii hval hB hZ hnext hcol hy hu hsp2 hc2 hhc htg htg2 hnx hbk hrr hvn hvs;go_upto_region 12 with (go_at_call 133;(with_reducible refine hsc.mono ?_);rintro e w6 ⟨rfl,hb6⟩;have hb7:=aD w6 (.cells #[.string nm2,.int .i64 kd2,.bool mu2,.string tg2] 95);have k7:=heap_alloc_new w6 (.cells #[.string nm2,.int .i64 kd2,.bool mu2,.string tg2] 95);have H7:=qAq (qBq (aB hb6 hb7) k7);clear hsc hb6 hb7 k7);obtain⟨w7,hw7⟩:∃ w7,w6.alloc (.cells #[.string nm2,.int .i64 kd2,.bool mu2,.string tg2] 95)=w7:=⟨_,rfl⟩;obtain⟨C2,hC2⟩:∃ c,w6.heap.size=c:=⟨_,rfl⟩;rw[hw7,hC2] at H7;rw[hw7,hC2];clear hw7 hC2;have hB7:=aB HBZ.out.1 H7.out.1;obtain⟨hr1,hr2⟩:=HG2.out w7 hB7;clear hw1 hw2
    go_upto_region 13 with (first
     | (go_at_call 62;(with_reducible refine hr1.mono ?_);rintro e w8 ⟨rfl,hw⟩;subst w8;clear hr1)
     | (go_at_call 132;(with_reducible refine hr2.mono ?_);rintro e w8 ⟨rfl,hb8⟩;have hb9:=aD w8 (.cells #[.int .i64 u.1,.int .i64 u.2.1,.string u.2.2] 32);have k9:=heap_alloc_new w8 (.cells #[.int .i64 u.1,.int .i64 u.2.1,.string u.2.2] 32);have H9:=qAq (qBq (aB hb8 hb9) k9);clear hr2 hb8 hb9 k9))
    obtain⟨w9,hw9⟩:∃ w9,w8.alloc (.cells #[.int .i64 u.1,.int .i64 u.2.1,.string u.2.2] 32)=w9:=⟨_,rfl⟩;obtain⟨C3,hC3⟩:∃ c,w8.heap.size=c:=⟨_,rfl⟩;rw[hw9,hC3] at H9;rw[hw9,hC3];clear hw9 hC3;have hB9:=aB hB7 H9.out.1;have m2:=aE H9.out.1 H7.out.2;have m3:=H9.out.2;have z3:=aA m2 3;have zl:=aC m2;have q0:=aA m3 0;have q1:=aA m3 1;have q2:=aA m3 2;have ql:=aC m3;have hbk:=HBK.out w9 hB9;have HB9:=qAq (qBq hB9 m2);clear hB9 m2 m3 hB7;cases rr with
    | none =>
     have HN2:=qAq (HV2.out.1 rfl);go_upto_region 15 with (go_at_call 100;(with_reducible refine hbk.mono ?_);rintro e w10 ⟨rfl,hb10⟩;have H10:=qAq (qBq (aB HB9.out.1 hb10) (aE (aB H7.out.1 (aB H9.out.1 hb10)) HBZ.out.2));clear hbk hb10);clear z3 zl q0 q1 q2 ql;obtain⟨zl,z0,z1,z2,zf⟩:=CELLS.out _ H10.out.2;have hrs:=HN2.out;go_wp2_with fail;generalize hwz:((World.setCell _ _ _).setCell _ _).setCell _ _=wz;obtain⟨y0,y1,y2,hBz⟩:=FIN.out _ _ _ _ _ H10.out.1 H10.out.2 hwz;refine bodyPost_ret (v:=.tuple #[(Value.agg #[Value.int .i64 (0),Value.int .i64 (0),Value.string (e0)]),.bool true]) (by simp[results,Tryz.results99,go_sem,y0,y1,y2]) rfl ?_;rw[<- hrs];exact⟨rfl,hBz⟩
    | some i =>
     obtain⟨v1,v2,v3⟩:=HV2.out.2.1 i rfl;have HVV:=qAq (qBq v1 (qBq v2 (qBq v3 HV2.out.2.2)));clear v1 v2 v3;go_upto_region 16 with (go_at_call 100;(with_reducible refine hbk.mono ?_);rintro e w10 ⟨rfl,hb10⟩;have H10:=qAq (qBq (aB HB9.out.1 hb10) (aE (aB H7.out.1 (aB H9.out.1 hb10)) HBZ.out.2));have m4:=aE hb10 HB9.out.2;clear hbk hb10);clear z3 zl q0 q1 q2 ql;have z3:=aA m4 3;have zl:=aC m4;clear m4;go_wp2_with fail;go_roundg (k-j)
     case measure=>omega
     case rel=>exact⟨j+1,tg2,i,rfl,rfl,rfl,by omega,by omega,HVV.out.2.2.2,HVV.out.2.1,HVV.out.2.2.1,HVV.out.1,H10.out.1,H10.out.2⟩
   ·obtain rfl:j=k:=(by omega);have hvl:(u,true)=res:=(by rw[<- hval,aBB hjp (by omega),hy,hu]);have HBZ:=qAq (qBq hB hZ);have HVL:=qAq hvl;clear hpc hhas hii hval hB hZ hnext hcol hy hu hvl;have hjb:(j:Int)<(j:Int)+1:=(by omega);go_upto_region 18 with fail;refine Par.wp_region_par4 13 (JV W B 11 (fun idx=>[(Value.pointer (some ⟨d,0,none⟩)),.string xx,(Value.pointer (some ⟨tb2,0,none⟩)),.int .i64 ii,.slice (some ⟨bp,off,none⟩) (j+1) cap,.int .i64 (j:Int),(Value.pointer (some ⟨bp,off+j,none⟩)),.string y,.tuple #[(Value.agg #[Value.int .i64 (u.1),Value.int .i64 (u.2.1),Value.string (u.2.2)]),.bool true],(Value.agg #[Value.int .i64 (u.1),Value.int .i64 (u.2.1),Value.string (u.2.2)]),.bool true,undef,.bool true].getD idx undef) u) ?AL ?hmL ?hBL ?hAL ?hJL ?hopL ?hTL
    case hmL=>kernel_rfl
    case hBL=>kernel_rfl
    case hAL =>
     intro vs;simp only[Par.putA,Par.dstAt,Act.put,qDq,qEq,qFq,qLq,qGq,qHq,qIq];rfl
    case hopL =>
     simp only[qMq,List.take_zero,Par.GiveAllK,and_true];and_intros<;>intro l vs w hJ hl hd hcl
     ·have HJ:=qAq hJ;clear hJ hd hcl;simp only[Par.GivesW];go_simp;all_goals exact HJ.out.up 0 (by decide)
     ·have HJ:=qAq hJ;clear hJ hd hcl;simp only[Par.GivesW];go_simp;all_goals exact HJ.out.up 1 (by decide)
     ·have HJ:=qAq hJ;have d0:vs 0=(Value.pointer (some ⟨d,0,none⟩)):=hJ.ev 0 (by decide) (hd 0 (by kernel_rfl));have d1:vs 1=.string xx:=hJ.ev 1 (by decide) (hd 1 (by kernel_rfl));have hc:=(HG2.out w hJ.bel).1;clear hJ hd hcl;simp only[Par.GivesW,d0,d1];go_simp;refine hc.mono ?_;rintro e y2 ⟨rfl,hw⟩;exact⟨_,rfl,HJ.out.call (hw▸Below.refl _ _) 2 (by decide)⟩
     ·have HJ:=qAq hJ;clear hJ hd hcl;simp only[Par.GivesW];go_simp;all_goals exact HJ.out.up 3 (by decide)
     ·have HJ:=qAq hJ;clear hJ hd hcl;simp only[Par.GivesW];go_simp;all_goals exact HJ.out.up 4 (by decide)
     ·have HJ:=qAq hJ;clear hJ hd hcl;simp only[Par.GivesW];go_simp;all_goals exact HJ.out.up 5 (by decide)
     ·have HJ:=qAq hJ;have d4:vs 4=.slice (some ⟨bp,off,none⟩) (j+1) cap:=hJ.ev 4 (by decide) (hd 4 (by kernel_rfl));have d5:vs 5=.int .i64 (j:Int):=hJ.ev 5 (by decide) (hd 5 (by kernel_rfl));clear hJ hd hcl;simp only[Par.GivesW,d4,d5];go_simp;all_goals exact HJ.out.up 6 (by decide)
     ·have HJ:=qAq hJ;have d6:vs 6=(Value.pointer (some ⟨bp,off+j,none⟩)):=hJ.ev 6 (by decide) (hd 6 (by kernel_rfl));have k:=HWORD.out w hJ.bel j (by rw[HN.out];exact Nat.lt_succ_self j);rw[HY.out] at k;have k0:=k.1;have k1:=k.2;clear k;clear hJ hd hcl;simp only[Par.GivesW,d6];go_simp;all_goals exact HJ.out.up 7 (by decide)
     ·have HJ:=qAq hJ;have d2:vs 2=(Value.pointer (some ⟨tb2,0,none⟩)):=hJ.ev 2 (by decide) (hd 2 (by kernel_rfl));have d3:vs 3=.int .i64 ii:=hJ.ev 3 (by decide) (hd 3 (by kernel_rfl));have d7:vs 7=.string y:=hJ.ev 7 (by decide) (hd 7 (by kernel_rfl));have hc:=(HG2.out w hJ.bel).2;clear hJ hd hcl;simp only[Par.GivesW,d2,d3,d7];go_simp;refine hc.mono ?_;rintro e y2 ⟨rfl,hb⟩;exact⟨_,rfl,HJ.out.call hb 8 (by decide)⟩
     ·have HJ:=qAq hJ;have d8:vs 8=.tuple #[(Value.agg #[Value.int .i64 (u.1),Value.int .i64 (u.2.1),Value.string (u.2.2)]),.bool true]:=hJ.ev 8 (by decide) (hd 8 (by kernel_rfl));clear hJ hd hcl;simp only[Par.GivesW,d8];go_simp;all_goals exact HJ.out.up 9 (by decide)
     ·have HJ:=qAq hJ;have d8:vs 8=.tuple #[(Value.agg #[Value.int .i64 (u.1),Value.int .i64 (u.2.1),Value.string (u.2.2)]),.bool true]:=hJ.ev 8 (by decide) (hd 8 (by kernel_rfl));clear hJ hd hcl;simp only[Par.GivesW,d8];go_simp;all_goals exact HJ.out.up 10 (by decide)
     ·have HJ:=qAq hJ;have d9:vs 9=(Value.agg #[Value.int .i64 (u.1),Value.int .i64 (u.2.1),Value.string (u.2.2)]):=hJ.ev 9 (by decide) (hd 9 (by kernel_rfl));have yz:=hJ.box.1;have yf:=hJ.box.2.1;obtain⟨v0,yc0⟩:=hJ.box.2.2.1;obtain⟨v1,yc1⟩:=hJ.box.2.2.2.1;obtain⟨v2,yc2⟩:=hJ.box.2.2.2.2;clear hJ hd hcl;simp only[Par.GivesW,d9];go_simp;all_goals exact HJ.out.store (Nat.le_of_eq HW.out.2.1) _
     ·have HJ:=qAq hJ;have d10:vs 10=.bool true:=hJ.ev 10 (by decide) (hd 10 (by kernel_rfl));clear hJ hd hcl;simp only[Par.GivesW,d10];go_simp;all_goals exact HJ.out.up 12 (by decide)
    case hJL =>
     intro vs;exact⟨aB HBZ.out.1 (aF wr),fun _ _ h=>(by cases h),_,_,_,aE (aF wr) HBZ.out.2,fun h=>(by cases h)⟩
    case hTL =>
     intro l vs w' hl hJ;simp only[qNq,List.drop_nil];obtain⟨x0,x1,x2,hx,hx2⟩:=hJ.own;obtain⟨rfl,rfl,rfl⟩:=hx2 (hl 11 (by decide));have d12:vs 12=.bool true:=hJ.ev 12 (by decide) (hl 12 (by decide));simp only[d12];have hbel:=hJ.bel;have y0:=aA hx 0;have y1:=aA hx 1;have y2:=aA hx 2;have HE:=qAq hbel;have hrs:=HVL.out;clear hJ hl hx hx2 hbel;go_wp2_with fail;refine bodyPost_ret (v:=.tuple #[(Value.agg #[Value.int .i64 (u.1),Value.int .i64 (u.2.1),Value.string (u.2.2)]),.bool true]) (by simp[results,Tryz.results99,go_sem,y0,y1,y2]) rfl ?_;rw[<- hrs];exact⟨rfl,HE.out⟩
