import Derived.Test.YtjepplacnaoomaaGreatZw41
import Derived.Test.YtjepplacnaoomaaGreatZw10
import Derived.Test.YtjepplacnaoomaaGreatZw36
set_option maxHeartbeats 8000000
set_option maxRecDepth 100000
namespace Go.Proofs.YtjepplacnaoomaaGreat
open Go Go.RowKit Go.Proofs Co Co.S
def Short (ts:List T):Prop:=∀ t∈ts,t.nm.size<=maxLen
abbrev rowsOf (st:List DT):List (List R1):=st.map (·.2.2)
section
variable {W:World} {d:Nat} {ts:List T} {st:List DT} {O:Nat->Nat}
theorem byKeyP_neg {As:List (List R1)} {x:ByteArray} {v:T3} (h:ixT ts x<0):byKeyP ts As x v=none:=by
 unfold byKeyP;split
 ·rw[if_pos h]
 ·rfl
theorem byKeyP_at {As:List (List R1)} {x:ByteArray} {v:T3} {j:Nat} (hj:j<ts.length) (hj':j<As.length) (h:ixT ts x=(j:Int)):byKeyP ts As x v=if ts[j].key=e0 then none else if v.1=0 then none else byRow As[j] (ixC ts[j].cols ts[j].key).toNat v:=by
 unfold byKeyP;rw[h];simp only[Int.toNat_natCast,List.getElem?_eq_getElem hj,List.getElem?_eq_getElem hj'];rw[if_neg (by omega)]
theorem Dd.sp (h:Dd W d ts st O):∃ mv,SchP mv W (Value.pointer (some ⟨d,0,none⟩)) ts:=by
 obtain⟨mv,f,n0,q1,_⟩:=h.own;exact⟨mv,q1.p⟩
theorem nm_of_find {x:ByteArray} {t:T} (h:findT ts x=some t):t.nm=x:=by
 have:=List.find?_some (l:=ts) (p:=isT x) h
 exact bytes_ext (by simpa [isT,eqS] using this)
theorem dbykey_any (h:Dd W d ts st O) (hi:InvQ ts) (hfew:AllFew ts) (hsz:Short ts) (x:ByteArray) (u:T3) :
  Calls Tryz.prog 18 #[(Value.pointer (some ⟨d,0,none⟩)),.string x,(Value.agg #[Value.int .i64 (u.1),Value.int .i64 (u.2.1),Value.string (u.2.2)])] W fun e w'=>e=.returned (.tuple #[.int .i64 ((byKeyP ts (rowsOf st) x u).getD 0),.bool (byKeyP ts (rowsOf st) x u).isSome])/\Below W.heap.size W w':=by
 have hds:∀ w,Below W.heap.size W w->Calls Tryz.prog 30 #[(Value.pointer (some ⟨d,0,none⟩))] w fun e w'=>e=.returned (Value.pointer (some ⟨d,0,none⟩))/\w'=w:=fun w hw=>dschema_any (h.later hw).dlt
 obtain⟨mv,hsp⟩:=h.sp;rcases ixT_cases ts x with ⟨h1,_,h3⟩ | ⟨j,hj,h1,_,h3⟩
 ·rw[byKeyP_neg (by omega)];exact dbykey_no hds hsp hfew (.inl (by rw[h3];rfl))
 ·have hj':j<st.length:=(by rw[h.len];exact hj);have hjr:j<(rowsOf st).length:=(by rw[List.length_map];exact hj');rw[byKeyP_at hj hjr h1];by_cases hk:ts[j].key=e0
  ·rw[if_pos hk];exact dbykey_no hds hsp hfew (.inl (by rw[h3];exact hk))
  ·rw[if_neg hk];by_cases hu:u.1=0
   ·rw[if_pos hu];exact dbykey_no hds hsp hfew (.inr hu)
   ·rw[if_neg hu];have hnm:=nm_of_find h3;have hg:=hi.key _ (List.getElem_mem hj)
    have hc:hasC ts[j].cols ts[j].key=true:=by
     unfold keyGood at hg;rw[Bool.or_eq_true] at hg;rcases hg with hg|hg
     ·rw[eqS_iff] at hg;exact absurd hg hk
     ·exact hg
    rcases ixC_casesQ ts[j].cols ts[j].key with ⟨_,h5,_⟩ | ⟨k,hk',h5,_⟩
    ·rw[h5] at hc;cases hc
    ·rw[h5]
     have:=dbykey_scan h hfew hj hj' (hsz _ (List.getElem_mem hj)) (by rw[hnm];exact h3) hk hk' h5 u hu
     rw[hnm] at this;simpa only[Int.toNat_natCast,rowsOf,List.getElem_map] using this
theorem tb_getc {tb next:Nat} {t:T} {A:List R1} {lab:Nat->Nat} (h:Tb W tb t next A lab) {id:Int} (hid:F64 id) {y:ByteArray} {k:Nat} (hk:k<t.cols.length) (hy:ixC t.cols y=(k:Int)) :
  Calls Tryz.prog 59 #[(Value.pointer (some ⟨tb,0,none⟩)),.int .i64 id,.string y] W fun e w'=>e=.returned (.tuple #[(Value.agg #[Value.int .i64 ((cellA A k id).1),Value.int .i64 ((cellA A k id).2.1),Value.string ((cellA A k id).2.2)]),.bool (hasId A id)])/\Below W.heap.size W w':=by
 cases hh:hasId A id with
 | false =>
  rw[cellA_no hh];exact tb_get_no h hid (.inl (hasId_no.1 hh))
 | true =>
  obtain⟨a,ha,rfl,hc⟩:=cellA_of hh;rw[hc];have hl:k<a.2.length:=(by rw[h.len a ha];exact hk);have e:a.2[k]?=some (a.2.getD k z3):=(by rw[List.getD_eq_getElem?_getD,List.getElem?_eq_getElem hl];rfl);exact tb_get_yes h ha hk hy e
theorem Dd.get (h:Dd W d ts st O) (hsz:Short ts) {x y:ByteArray} (hc:hasC (colsAt ts x) y=true):∃ tb,∀ w,Below W.heap.size W w ->
  (Calls Tryz.prog 56 #[(Value.pointer (some ⟨d,0,none⟩)),.string x] w fun e w'=>e=.returned (Value.pointer (some ⟨tb,0,none⟩))/\w'=w) /\
  ∀ id,F64 id->Calls Tryz.prog 59 #[(Value.pointer (some ⟨tb,0,none⟩)),.int .i64 id,.string y] w fun e w'=>e=.returned (.tuple #[(Value.agg #[Value.int .i64 ((cellP ts (rowsOf st) x id y).1),Value.int .i64 ((cellP ts (rowsOf st) x id y).2.1),Value.string ((cellP ts (rowsOf st) x id y).2.2)]),.bool (hasId (rowsAt ts (rowsOf st) x) id)])/\Below w.heap.size w w':=by
 obtain⟨j,hj,hnm,hix,hf,hca,k,hk,hkx⟩:=hasC_at hc;have hj':j<st.length:=by rw[h.len];exact hj
 have hr:rowsAt ts (rowsOf st) x=st[j].2.2:=by
  unfold rowsAt;rw[hix,Int.toNat_natCast,List.getElem?_map,List.getElem?_eq_getElem hj'];rfl
 refine⟨st[j].1,fun w hw=>⟨?_,fun id hid=>?_⟩⟩
 ·have:=(h.later hw).rows hj (hsz _ (List.getElem_mem hj)) hj'
  rw[hnm] at this;exact this
 ·obtain⟨lab,ht,_⟩:=(h.later hw).tab j hj hj'
  have:=tb_getc ht hid hk hkx
  unfold cellP;rw[hr,hca,hkx,Int.toNat_natCast];exact this
theorem Dd.f64 (h:Dd W d ts st O) {x:ByteArray} {i:Int} (hm:hasId (rowsAt ts (rowsOf st) x) i=true):F64 i:=by
 obtain⟨a,ha,rfl⟩:=hasId_mem.1 hm;unfold rowsAt at ha;rw[List.getElem?_map] at ha;cases hh:st[(ixT ts x).toNat]? with
 | none=>rw[hh] at ha;cases ha
 | some s =>
  rw[hh] at ha;obtain⟨hlt,rfl⟩:=List.getElem?_eq_some_iff.1 hh;obtain⟨lab,⟨i0,_,hinv⟩,_⟩:=h.tab _ (by rw[<- h.len];exact hlt) hlt;exact Tb.f64 hinv ha
end
end Go.Proofs.YtjepplacnaoomaaGreat
namespace Go.Proofs.YtjepplacnaoomaaGreat
open Go Go.RowKit Go.Proofs Co Co.S Par
theorem grown_set3 (w:World) (g:Nat) (a b c:Value):w.grownBy (((w.setCell ⟨g,0,none⟩ a).setCell ⟨g,1,none⟩ b).setCell ⟨g,2,none⟩ c) (some g) :=
 ⟨rfl,rfl,rfl,by simp[World.setCell],fun i _ hk=>by
  have h:i≠g:=(fun e=>hk (by rw[e]));rw[heap_setCell_other _ _ i _ h,heap_setCell_other _ _ i _ h,heap_setCell_other _ _ i _ h]⟩
structure JV (W:World) (B s:Nat) (E:Nat->Value) (u:T3) (l:Nat->Bool) (vs:Nat->Value) (w:World):Prop where
 bel:Below W.heap.size W w
 ev:∀ j,j≠s->l j=true->vs j=E j
 own:∃ x0 x1 x2,w.heap[B]?=some (.cells #[x0,x1,x2] 26)/\(l s=true->x0=.int .i64 u.1/\x1=.int .i64 u.2.1/\x2=.string u.2.2)
section
variable {W w w':World} {B s:Nat} {E:Nat->Value} {u:T3} {l:Nat->Bool} {vs:Nat->Value}
theorem JV.up (h:JV W B s E u l vs w) (i:Nat) (hi:i≠s):JV W B s E u (upB l i) (upV vs i (E i)) w:=by
 refine⟨h.bel,fun j hj hl=>?_,?_⟩
 ·by_cases e:j=i
  ·subst e;rw[upV_eq]
  ·rw[upV_ne e];rw[upB_ne e] at hl;exact h.ev j hj hl
 ·obtain⟨x0,x1,x2,h1,h2⟩:=h.own;exact⟨x0,x1,x2,h1,fun hl=>h2 (by rwa [upB_ne (fun e=>hi e.symm)] at hl)⟩
theorem JV.call (h:JV W B s E u l vs w) (hb:Below w.heap.size w w') (i:Nat) (hi:i≠s):JV W B s E u (upB l i) (upV vs i (E i)) w':=by
 have h':JV W B s E u l vs w':=by
  obtain⟨x0,x1,x2,h1,h2⟩:=h.own;exact⟨below_on h.bel hb,h.ev,x0,x1,x2,heap_on hb h1,h2⟩
 exact h'.up i hi
theorem JV.store (h:JV W B s E u l vs w) (hB:W.heap.size<=B) (v:Value):JV W B s E u (upB l s) (upV vs s v) (((w.setCell ⟨B,0,none⟩ (.int .i64 u.1)).setCell ⟨B,1,none⟩ (.int .i64 u.2.1)).setCell ⟨B,2,none⟩ (.string u.2.2)):=by
 obtain⟨x0,x1,x2,h1,h2⟩:=h.own;refine⟨below_set3 h.bel hB _ _ _,fun j hj hl=>?_,_,_,_,set3 h1 _ _ _,fun _=>⟨rfl,rfl,rfl⟩⟩;rw[upV_ne hj];rw[upB_ne hj] at hl;exact h.ev j hj hl
theorem JV.box (h:JV W B s E u l vs w):B<w.heap.size/\(∀ j,w.frozen? ⟨B,j,none⟩=false)/\(∃ v,w.cell? ⟨B,0,none⟩=some v)/\(∃ v,w.cell? ⟨B,1,none⟩=some v)/\∃ v,w.cell? ⟨B,2,none⟩=some v:=by
 obtain⟨x0,x1,x2,h1,_⟩:=h.own;exact⟨lt_of_heap h1,fun j=>frozen_of_row w B j _ _ h1,⟨_,nd_cell h1 0⟩,⟨_,nd_cell h1 1⟩,⟨_,nd_cell h1 2⟩⟩
end
end Go.Proofs.YtjepplacnaoomaaGreat
namespace Go.Proofs.YtjepplacnaoomaaGreat
open Go Go.RowKit Go.Proofs Co Co.S
theorem dvalue_yes {W:World} {d:Nat} {ts:List T} {st:List DT} {O:Nat->Nat} (h:Dd W d ts st O) (hi:InvQ ts) (hfew:AllFew ts) (hsz:Short ts) {v:Value} {x:ByteArray} {id:Int} {p:List ByteArray} (hid:F64 id) (hp:Wd W v p) (hok:(pcolL ts x p).2.2=0) :
  Calls Tryz.prog 20 #[(Value.pointer (some ⟨d,0,none⟩)),.string x,.int .i64 id,v] W fun e w'=>e=.returned (.tuple #[(Value.agg #[Value.int .i64 ((valueP ts (rowsOf st) x id p).1.1),Value.int .i64 ((valueP ts (rowsOf st) x id p).1.2.1),Value.string ((valueP ts (rowsOf st) x id p).1.2.2)]),.bool (valueP ts (rowsOf st) x id p).2])/\Below W.heap.size W w':=by
 have hb1:=below_alloc W (.cells #[.int .i64 0,.int .i64 0,.string e0] 26);have k1:=heap_alloc_new W (.cells #[.int .i64 0,.int .i64 0,.string e0] 26);obtain⟨w1,hw1⟩:∃ w1,W.alloc (.cells #[.int .i64 0,.int .i64 0,.string e0] 26)=w1:=⟨_,rfl⟩;obtain⟨B,hB⟩:∃ B,W.heap.size=B:=⟨_,rfl⟩;rw[hw1] at hb1 k1;rw[hB] at k1;have h1:Dd w1 d ts st O:=h.later hb1;have hp1:=hp.later hb1;have hs:=dschema_any (W:=w1) h1.dlt;obtain⟨mv,hsp⟩:=h1.sp;have hc:=pathCol_any (tb:=x) hsp hp1;obtain⟨cc,hcc⟩:∃ e,pcolL ts x p=e:=⟨_,rfl⟩
 have hlen:1<=p.length/\p.length<=4:=by
  unfold pcolL at hok;split at hok
  ·exact absurd hok (by decide)
  ·omega
 have hok0:(pcol ts x (p.drop 0)).2.2=0:=by
  unfold pcolL at hok;rw[if_neg (by omega)] at hok;exact hok
 obtain⟨n,hn⟩:∃ n,p.length=n:=⟨_,rfl⟩;obtain⟨q,cap,rfl,hcap,hm⟩:=hp1.slice;obtain⟨bp,off,rfl,hbp,hcw0⟩:=Wd.word hp1 (i:=0) (by omega);rw[hok] at hc;rw[hcc] at hc;obtain⟨⟨nm,kd,mu,tg⟩,s2,er⟩:=cc;dsimp only at hc;rw[show colVQ ⟨nm,kd,mu,tg⟩=.agg #[.string nm,.int .i64 kd,.bool mu,.string tg] from rfl] at hc;have hcol0:=(pcol_ok (by omega:0<p.length) hok0).1
 have HWORD:Hid (∀ w,Below W.heap.size W w->∀ j (hj:j<p.length),w.cell? ⟨bp,off+j,none⟩=some (.string p[j])/\bp<w.heap.size):=Lib.hid (fun w hw j hj=>by
  obtain⟨b',o',e,h1,h2⟩:=Wd.word (hp.later hw) hj;cases e;exact⟨h2,h1⟩)
 have HD:Hid (∀ w,Below W.heap.size W w->Dd w d ts st O):=Lib.hid (fun w hw=>h.later hw);have HF:Hid (InvQ ts/\AllFew ts/\Short ts/\F64 id/\p.length=n/\1<=n/\n<=4/\(pcolL ts x p).2.2=0/\(pcol ts x (p.drop 0)).2.2=0/\hasC (colsAt ts x) (p[0]'(by omega))=true):=Lib.hid ⟨hi,hfew,hsz,hid,hn,by omega,by omega,hok,hok0,hcol0⟩;have HW:=Lib.hid (And.intro hw1 (And.intro hB (And.intro hb1 k1)));obtain⟨tb,HGET⟩:=h.get hsz hcol0;obtain⟨y0,hy0⟩:∃ y,p[0]'(by omega)=y:=⟨_,rfl⟩;rw[hy0] at HGET;obtain⟨u0,hu0⟩:∃ u,cellP ts (rowsOf st) x id y0=u:=⟨_,rfl⟩;obtain⟨ok,hokr⟩:∃ b,hasId (rowsAt ts (rowsOf st) x) id=b:=⟨_,rfl⟩
 have HG:Hid (∀ w,Below W.heap.size W w->(Calls Tryz.prog 56 #[(Value.pointer (some ⟨d,0,none⟩)),.string x] w fun e w'=>e=.returned (Value.pointer (some ⟨tb,0,none⟩))/\w'=w)/\Calls Tryz.prog 59 #[(Value.pointer (some ⟨tb,0,none⟩)),.int .i64 id,.string y0] w fun e w'=>e=.returned (.tuple #[(Value.agg #[Value.int .i64 (u0.1),Value.int .i64 (u0.2.1),Value.string (u0.2.2)]),.bool ok])/\Below w.heap.size w w'):=Lib.hid (fun w hw=>by
  have hg:=(HGET w hw).2 id hid;rw[hu0,hokr] at hg;exact⟨(HGET w hw).1,hg⟩)
 have HV:Hid (∀ r,(if ok=true then (valP ts (rowsOf st) x id p,true) else (z3,false))=r->valueP ts (rowsOf st) x id p=r):=Lib.hid (fun r hr=>by
  rw[<- hr];unfold valueP;by_cases e:ok=true
  ·rw[if_pos ⟨hok,by rw[hokr];exact e⟩,if_pos e]
  ·rw[if_neg (fun h=>e (by rw[<- hokr];exact h.2)),if_neg e])
 have HY0:Hid (p[0]'(by omega)=y0/\hasId (rowsAt ts (rowsOf st) x) id=ok):=Lib.hid ⟨hy0,hokr⟩;have hn0:(0:Int)<(n:Int):=(by omega);have hnn:0<n:=(by omega);rw[hn] at hc;rw[hn] at hcap;obtain⟨res,hres⟩:∃ r,valueP ts (rowsOf st) x id p=r:=⟨_,rfl⟩;rw[hres,hn];have HRES:=Lib.hid hres;clear hcw0;clear hw1 hB hb1 k1 h h1 hp hp1 hsp hcc hok0 hcol0 hy0 hu0 hokr hi hfew hsz hid hok HGET hres;unfold maxLen at hm;go_enter Tryz.func20,Tryz.ntmps20;go_upto_region 1 with fail;rw[HW.out.1,HW.out.2.1]
 go_upto_region 2 with (first
  | (go_at_call 30;(with_reducible refine hs.mono ?_);rintro e w2 ⟨rfl,hw⟩;subst w2;clear hs)
  | (go_at_call 62;(with_reducible refine hc.mono ?_);rintro e w3 ⟨rfl,hb3⟩;have hb4:=below_alloc w3 (.cells #[.string nm,.int .i64 kd,.bool mu,.string tg] 116);have H3:=Lib.hid (below_on HW.out.2.2.1 (below_on hb3 hb4));have HZ3:=Lib.hid (heap_on hb3 HW.out.2.2.2);clear hc hb3 hb4))
 have hz4:=heap_on (below_alloc w3 (.cells #[.string nm,.int .i64 kd,.bool mu,.string tg] 116)) HZ3.out;have HZ4:=Lib.hid hz4;clear hz4;generalize w3.alloc _=w4 at H3 HZ4 ⊢;go_upto_region 4 with fail;refine Par.wp_region_box 14 11 12 9 (w4.heap.size) 26 (#[.int .i64 0,.int .i64 0,.string e0]) (Par.aggC) (fun y=>Below w4.heap.size w4 y) (Par.VBL [(.eq (Value.pointer (some ⟨d,0,none⟩))),(.eq (.string x)),(.eq (Value.pointer (some ⟨tb,0,none⟩))),(.eq (.int .i64 id)),(.eq (.slice (some ⟨bp,off,none⟩) n cap)),(.eq (Value.pointer (some ⟨bp,off,none⟩))),(.eq (.string y0)),(.eq (.tuple #[(Value.agg #[Value.int .i64 (u0.1),Value.int .i64 (u0.2.1),Value.string (u0.2.2)]),.bool ok])),(.eq (.tuple #[(Value.agg #[Value.int .i64 (u0.1),Value.int .i64 (u0.2.1),Value.string (u0.2.2)]),.bool ok])),(.eq (Value.agg #[Value.int .i64 (u0.1),Value.int .i64 (u0.2.1),Value.string (u0.2.2)])),(.eq (.bool ok)),(.any),(.any),(.eq (.bool ok))]) ?A1 ?hm1 ?hB1 (fun w w' h ht=>h.trans ht.below) (Par.VBL.mono _) (fun w h=>h.size) ?hA1 ((below_drew w4)) (by decide) (by decide) (by decide) (by kernel_rfl) (by kernel_rfl) (by decide) ?hop1 ?hT1
 case hm1=>kernel_rfl
 case hB1=>kernel_rfl
 case hA1 =>
  intro vs;simp only[Par.putA,Par.dstAt,Act.put,List.getElem?_toArray,List.getElem?_cons_zero,List.getElem?_cons_succ,Option.bind_some,List.setIfInBounds_toArray,List.set_cons_zero,List.set_cons_succ];rfl
 case hop1 =>
  have hkd:(List.range 14).map (Par.kdOf 11 12)=[.val,.val,.val,.val,.val,.val,.val,.val,.val,.val,.val,.new,.put,.val]:=rfl;simp only[hkd,List.take_succ_cons,List.take_zero,Par.GiveAllB,and_true];refine⟨fun vs w hK hd=>?_,fun vs w hK hd=>?_,fun vs w hK hd=>?_,fun vs w hK hd=>?_,fun vs w hK hd=>?_,fun vs w hK hd=>?_,fun vs w hK hd=>?_,fun vs w hK hd=>?_,fun vs w hK hd=>?_,fun vs w hK hd=>?_,fun vs w hK hd=>?_,fun vs w hK=>?_,fun vs w g hK hd a hz=>?_,fun vs w hK hd=>?_⟩
  ·clear hd;simp only[Par.GivesW];go_simp;all_goals exact⟨rfl,Below.refl _ _⟩
  ·clear hd;simp only[Par.GivesW];go_simp;all_goals exact⟨rfl,Below.refl _ _⟩
  ·have d0:=hd 0 (by decide) (by decide) (by decide) (by kernel_rfl);replace d0:vs 0=(Value.pointer (some ⟨d,0,none⟩)):=d0;have d1:=hd 1 (by decide) (by decide) (by decide) (by kernel_rfl);replace d1:vs 1=(.string x):=d1;clear hd;simp only[Par.GivesW,d0,d1];go_simp;exact ((HG.out w (below_on H3.out hK)).1).mono (fun e w'' h=>⟨_,h.1,⟨rfl,h.2▸Below.refl _ _⟩⟩)
  ·clear hd;simp only[Par.GivesW];go_simp;all_goals exact⟨rfl,Below.refl _ _⟩
  ·clear hd;simp only[Par.GivesW];go_simp;all_goals exact⟨rfl,Below.refl _ _⟩
  ·have d4:=hd 4 (by decide) (by decide) (by decide) (by kernel_rfl);replace d4:vs 4=(.slice (some ⟨bp,off,none⟩) n cap):=d4;clear hd;simp only[Par.GivesW,d4];go_simp;all_goals exact⟨rfl,Below.refl _ _⟩
  ·have d5:=hd 5 (by decide) (by decide) (by decide) (by kernel_rfl);replace d5:vs 5=(Value.pointer (some ⟨bp,off,none⟩)):=d5;have k:=((HWORD.out w (below_on H3.out hK)) 0 (by rw[HF.out.2.2.2.2.1];exact hnn));rw[HY0.out.1] at k;rw[Nat.add_zero] at k;have k0:=k.1;have k1:=k.2;clear k;clear hd;simp only[Par.GivesW,d5];go_simp;all_goals exact⟨rfl,Below.refl _ _⟩
  ·have d2:=hd 2 (by decide) (by decide) (by decide) (by kernel_rfl);replace d2:vs 2=(Value.pointer (some ⟨tb,0,none⟩)):=d2;have d3:=hd 3 (by decide) (by decide) (by decide) (by kernel_rfl);replace d3:vs 3=(.int .i64 id):=d3;have d6:=hd 6 (by decide) (by decide) (by decide) (by kernel_rfl);replace d6:vs 6=(.string y0):=d6;clear hd;simp only[Par.GivesW,d2,d3,d6];go_simp;exact ((HG.out w (below_on H3.out hK)).2).mono (fun e w'' h=>⟨_,h.1,⟨rfl,h.2⟩⟩)
  ·have d7:=hd 7 (by decide) (by decide) (by decide) (by kernel_rfl);replace d7:vs 7=(.tuple #[(Value.agg #[Value.int .i64 (u0.1),Value.int .i64 (u0.2.1),Value.string (u0.2.2)]),.bool ok]):=d7;clear hd;simp only[Par.GivesW,d7];go_simp;all_goals exact⟨rfl,Below.refl _ _⟩
  ·have d8:=hd 8 (by decide) (by decide) (by decide) (by kernel_rfl);replace d8:vs 8=(.tuple #[(Value.agg #[Value.int .i64 (u0.1),Value.int .i64 (u0.2.1),Value.string (u0.2.2)]),.bool ok]):=d8;clear hd;simp only[Par.GivesW,d8];go_simp;all_goals exact⟨rfl,Below.refl _ _⟩
  ·have d8:=hd 8 (by decide) (by decide) (by decide) (by kernel_rfl);replace d8:vs 8=(.tuple #[(Value.agg #[Value.int .i64 (u0.1),Value.int .i64 (u0.2.1),Value.string (u0.2.2)]),.bool ok]):=d8;clear hd;simp only[Par.GivesW,d8];go_simp;all_goals exact⟨rfl,Below.refl _ _⟩
  ·clear hK;simp only[Par.GivesW];go_simp;all_goals exact⟨rfl,rfl⟩
  ·have d9:=hd 9 (by decide) (by decide) (by decide) (by kernel_rfl);replace d9:vs 9=(Value.agg #[Value.int .i64 (u0.1),Value.int .i64 (u0.2.1),Value.string (u0.2.2)]):=d9;have z0:=nd_cell hz 0;have z1:=nd_cell hz 1;have z2:=nd_cell hz 2;have zf:=(fun i=>frozen_of_row w g i _ _ hz);have zl:=lt_of_heap hz;have HZ:=Lib.hid hz;clear hK hd hz;simp only[Par.GivesW,a,d9];go_simp;exact⟨grown_set3 w g _ _ _,set3 HZ.out _ _ _⟩
  ·have d10:=hd 10 (by decide) (by decide) (by decide) (by kernel_rfl);replace d10:vs 10=(.bool ok):=d10;clear hd;simp only[Par.GivesW,d10];go_simp;all_goals exact⟨rfl,Below.refl _ _⟩
 case hT1 =>
  intro vs w' g hK hV a hBg hz;simp only[List.drop_succ_cons,List.drop_nil];have d0:=hV 0 (by decide) (by decide) (by decide);replace d0:vs 0=(Value.pointer (some ⟨d,0,none⟩)):=d0;have d1:=hV 1 (by decide) (by decide) (by decide);replace d1:vs 1=(.string x):=d1;have d2:=hV 2 (by decide) (by decide) (by decide);replace d2:vs 2=(Value.pointer (some ⟨tb,0,none⟩)):=d2;have d3:=hV 3 (by decide) (by decide) (by decide);replace d3:vs 3=(.int .i64 id):=d3;have d4:=hV 4 (by decide) (by decide) (by decide);replace d4:vs 4=(.slice (some ⟨bp,off,none⟩) n cap):=d4;have d5:=hV 5 (by decide) (by decide) (by decide);replace d5:vs 5=(Value.pointer (some ⟨bp,off,none⟩)):=d5;have d6:=hV 6 (by decide) (by decide) (by decide);replace d6:vs 6=(.string y0):=d6;have d7:=hV 7 (by decide) (by decide) (by decide);replace d7:vs 7=(.tuple #[(Value.agg #[Value.int .i64 (u0.1),Value.int .i64 (u0.2.1),Value.string (u0.2.2)]),.bool ok]):=d7;have d8:=hV 8 (by decide) (by decide) (by decide);replace d8:vs 8=(.tuple #[(Value.agg #[Value.int .i64 (u0.1),Value.int .i64 (u0.2.1),Value.string (u0.2.2)]),.bool ok]):=d8;have d9:=hV 9 (by decide) (by decide) (by decide);replace d9:vs 9=(Value.agg #[Value.int .i64 (u0.1),Value.int .i64 (u0.2.1),Value.string (u0.2.2)]):=d9;have d10:=hV 10 (by decide) (by decide) (by decide);replace d10:vs 10=(.bool ok):=d10;have d13:=hV 13 (by decide) (by decide) (by decide);replace d13:vs 13=(.bool ok):=d13;clear hV;rw[d9] at hz;simp only[a,d0,d1,d2,d3,d4,d5,d6,d7,d8,d9,d10,d13];clear a d0 d1 d2 d3 d4 d5 d6 d7 d8 d9 d10 d13;have hz5:w'.heap[B]?=some (.cells #[.int .i64 0,.int .i64 0,.string e0] 26):=heap_on hK HZ4.out;have H5:=Lib.hid (below_on H3.out hK);have HZ5:=Lib.hid hz5;obtain⟨w5,rfl⟩:∃ x,x=w':=⟨_,rfl⟩;clear hK hz hBg hz5
  have FIN:Hid (∀ (w wz:World) (a b c:Value),Below W.heap.size W w->w.heap[B]?=some (.cells #[.int .i64 0,.int .i64 0,.string e0] 26)->((w.setCell ⟨B,0,none⟩ a).setCell ⟨B,1,none⟩ b).setCell ⟨B,2,none⟩ c=wz ->
    wz.cell? ⟨B,0,none⟩=some a/\wz.cell? ⟨B,1,none⟩=some b/\wz.cell? ⟨B,2,none⟩=some c/\Below W.heap.size W wz):=Lib.hid (fun w wz a b c hb hz e=>by
   subst e;have h3:=set3 hz a b c;exact⟨nd_cell h3 0,nd_cell h3 1,nd_cell h3 2,below_set3 hb (Nat.le_of_eq HW.out.2.1) _ _ _⟩)
  have CELLS:Hid (∀ (w:World),w.heap[B]?=some (.cells #[.int .i64 0,.int .i64 0,.string e0] 26)->B<w.heap.size/\w.cell? ⟨B,0,none⟩=some (.int .i64 0)/\w.cell? ⟨B,1,none⟩=some (.int .i64 0)/\w.cell? ⟨B,2,none⟩=some (.string e0)/\∀ i,w.frozen? ⟨B,i,none⟩=false):=Lib.hid (fun w hz =>
   ⟨lt_of_heap hz,nd_cell hz 0,nd_cell hz 1,nd_cell hz 2,fun i=>frozen_of_row w B i _ _ hz⟩)
  cases ok with
  | false =>
   obtain⟨zl,z0,z1,z2,zf⟩:=CELLS.out _ HZ5.out;obtain rfl:res=(z3,false):=HRES.out.symm.trans (HV.out _ rfl);go_wp2_with fail;generalize hwz:((World.setCell _ _ _).setCell _ _).setCell _ _=wz;obtain⟨y0,y1,y2,hBz⟩:=FIN.out _ _ _ _ _ H5.out HZ5.out hwz;refine bodyPost_ret (v:=.tuple #[(Value.agg #[Value.int .i64 (0),Value.int .i64 (0),Value.string (e0)]),.bool false]) (by simp[results,Tryz.results20,go_sem,y0,y1,y2]) rfl ?_;exact⟨rfl,hBz⟩
  | true =>
   have hres1:(valP ts (rowsOf st) x id (p.drop 0),true)=res:=(HV.out _ rfl).symm.trans HRES.out;have HR1:=Lib.hid hres1;clear hres1 HV HRES;obtain⟨k,rfl⟩:∃ k,n=k+1:=⟨n-1,by omega⟩;have hlast:((k:Int)+1)-1=(k:Int):=(by omega);go_wp2_with fail;go_loopg [1,2,57] (k+1) (fun gh xv iv jv w=>∃ (j:Nat) (xx:ByteArray) (ii:Int),jv=.int .i64 (j:Int)/\xv=.string xx/\iv=.int .i64 ii/\j<=k/\k+1<=j+gh/\(pcol ts xx (p.drop j)).2.2=0/\hasId (rowsAt ts (rowsOf st) xx) ii=true/\F64 ii/\(valP ts (rowsOf st) xx ii (p.drop j),true)=res/\Below W.heap.size W w/\w.heap[B]?=some (.cells #[.int .i64 0,.int .i64 0,.string e0] 26))
   case atStart=>exact⟨0,x,id,rfl,rfl,rfl,Nat.zero_le _,by omega,HF.out.2.2.2.2.2.2.2.2.1,HY0.out.2,HF.out.2.2.2.1,HR1.out,H5.out,HZ5.out⟩
   case round =>
    obtain⟨j,xx,ii,rfl,rfl,rfl,hj,hg,hpc,hhas,hii,hval,hB,hZ⟩:=hrel;have HN:=Lib.hid hn;have hjp:j<p.length:=(by omega);obtain⟨hcol,hnext⟩:=pcol_ok hjp hpc;obtain⟨tb2,HGET2⟩:=(HD.out W (Below.refl _ _)).get HF.out.2.2.1 hcol;obtain⟨y,hy⟩:∃ y,p[j]=y:=⟨_,rfl⟩;rw[hy] at hcol HGET2;obtain⟨u,hu⟩:∃ u,cellP ts (rowsOf st) xx ii y=u:=⟨_,rfl⟩;have HY:=Lib.hid hy
    have HG2:Hid (∀ w,Below W.heap.size W w->(Calls Tryz.prog 56 #[(Value.pointer (some ⟨d,0,none⟩)),.string xx] w fun e w'=>e=.returned (Value.pointer (some ⟨tb2,0,none⟩))/\w'=w)/\Calls Tryz.prog 59 #[(Value.pointer (some ⟨tb2,0,none⟩)),.int .i64 ii,.string y] w fun e w'=>e=.returned (.tuple #[(Value.agg #[Value.int .i64 (u.1),Value.int .i64 (u.2.1),Value.string (u.2.2)]),.bool true])/\Below w.heap.size w w'):=Lib.hid (fun w hw=>by
     have hg:=(HGET2 w hw).2 ii hii;rw[hu,hhas] at hg;exact⟨(HGET2 w hw).1,hg⟩)
    clear HGET2;by_cases hlt:j<k
    ·have hji:(j:Int)<(k:Int):=(by omega);have hw0:=HWORD.out wr hB j hjp;rw[hy] at hw0;obtain⟨hw1,hw2⟩:=hw0;obtain⟨mv2,hsp2⟩:=(HD.out wr hB).sp;have hsc:=sCol_any (x:=xx) (c:=y) hsp2;obtain⟨c2,hc2⟩:∃ c,orC (colOf (orT (findT ts xx)).cols y)=c:=⟨_,rfl⟩;have htg:c2.tgt=tgtOf ts xx y:=(by rw[<- hc2];rfl);have hhc:hasC (orT (findT ts xx)).cols y=true:=hcol;rw[hc2,hhc] at hsc;obtain⟨nm2,kd2,mu2,tg2⟩:=c2;rw[show colVQ ⟨nm2,kd2,mu2,tg2⟩=.agg #[.string nm2,.int .i64 kd2,.bool mu2,.string tg2] from rfl] at hsc;have htg2:tg2=tgtOf ts xx y:=htg;have hnx:=hnext (by omega);rw[hy,<- htg2] at hnx;have hbk:=(fun w (hb:Below W.heap.size W w)=>dbykey_any (HD.out w hb) HF.out.1 HF.out.2.1 HF.out.2.2.1 tg2 u);obtain⟨rr,hrr⟩:∃ r,byKeyP ts (rowsOf st) tg2 u=r:=⟨_,rfl⟩;rw[hrr] at hbk
     have hvn:rr=none->(z3,true)=res:=fun e=>by
      rw[<- hval,valP_none hjp (by omega) (by rw[hy,hu,<- htg2,hrr];exact e)]
     have hvs:∀ i,rr=some i->(valP ts (rowsOf st) tg2 i (p.drop (j+1)),true)=res/\hasId (rowsAt ts (rowsOf st) tg2) i=true/\F64 i:=fun i e=>by
      have hm:=byKeyP_mem (hrr.trans e);refine⟨?_,hm,(HD.out wr hB).f64 hm⟩;rw[<- hval,valP_some hjp (by omega) (by rw[hy,hu,<- htg2,hrr];exact e),hy,<- htg2]
     have HV2:=Lib.hid (And.intro hvn (And.intro hvs hnx));have HBK:=Lib.hid hbk;have HBZ:=Lib.hid (And.intro hB hZ);clear hpc hhas hii hval hB hZ hnext hcol hy hu hsp2 hc2 hhc htg htg2 hnx hbk hrr hvn hvs;go_upto_region 12 with (go_at_call 63;(with_reducible refine hsc.mono ?_);rintro e w6 ⟨rfl,hb6⟩;have hb7:=below_alloc w6 (.cells #[.string nm2,.int .i64 kd2,.bool mu2,.string tg2] 116);have k7:=heap_alloc_new w6 (.cells #[.string nm2,.int .i64 kd2,.bool mu2,.string tg2] 116);have H7:=Lib.hid (And.intro (below_on hb6 hb7) k7);clear hsc hb6 hb7 k7);obtain⟨w7,hw7⟩:∃ w7,w6.alloc (.cells #[.string nm2,.int .i64 kd2,.bool mu2,.string tg2] 116)=w7:=⟨_,rfl⟩;obtain⟨C2,hC2⟩:∃ c,w6.heap.size=c:=⟨_,rfl⟩;rw[hw7,hC2] at H7;rw[hw7,hC2];clear hw7 hC2;have hB7:=below_on HBZ.out.1 H7.out.1;obtain⟨hr1,hr2⟩:=HG2.out w7 hB7;clear hw1 hw2
     go_upto_region 13 with (first
      | (go_at_call 56;(with_reducible refine hr1.mono ?_);rintro e w8 ⟨rfl,hw⟩;subst w8;clear hr1)
      | (go_at_call 59;(with_reducible refine hr2.mono ?_);rintro e w8 ⟨rfl,hb8⟩;have hb9:=below_alloc w8 (.cells #[.int .i64 u.1,.int .i64 u.2.1,.string u.2.2] 26);have k9:=heap_alloc_new w8 (.cells #[.int .i64 u.1,.int .i64 u.2.1,.string u.2.2] 26);have H9:=Lib.hid (And.intro (below_on hb8 hb9) k9);clear hr2 hb8 hb9 k9))
     obtain⟨w9,hw9⟩:∃ w9,w8.alloc (.cells #[.int .i64 u.1,.int .i64 u.2.1,.string u.2.2] 26)=w9:=⟨_,rfl⟩;obtain⟨C3,hC3⟩:∃ c,w8.heap.size=c:=⟨_,rfl⟩;rw[hw9,hC3] at H9;rw[hw9,hC3];clear hw9 hC3;have hB9:=below_on hB7 H9.out.1;have m2:=heap_on H9.out.1 H7.out.2;have m3:=H9.out.2;have z3:=nd_cell m2 3;have zl:=lt_of_heap m2;have q0:=nd_cell m3 0;have q1:=nd_cell m3 1;have q2:=nd_cell m3 2;have ql:=lt_of_heap m3;have hbk:=HBK.out w9 hB9;have HB9:=Lib.hid (And.intro hB9 m2);clear hB9 m2 m3 hB7;cases rr with
     | none =>
      have HN2:=Lib.hid (HV2.out.1 rfl);go_upto_region 15 with (go_at_call 18;(with_reducible refine hbk.mono ?_);rintro e w10 ⟨rfl,hb10⟩;have H10:=Lib.hid (And.intro (below_on HB9.out.1 hb10) (heap_on (below_on H7.out.1 (below_on H9.out.1 hb10)) HBZ.out.2));clear hbk hb10);clear z3 zl q0 q1 q2 ql;obtain⟨zl,z0,z1,z2,zf⟩:=CELLS.out _ H10.out.2;have hrs:=HN2.out;go_wp2_with fail;generalize hwz:((World.setCell _ _ _).setCell _ _).setCell _ _=wz;obtain⟨y0,y1,y2,hBz⟩:=FIN.out _ _ _ _ _ H10.out.1 H10.out.2 hwz;refine bodyPost_ret (v:=.tuple #[(Value.agg #[Value.int .i64 (0),Value.int .i64 (0),Value.string (e0)]),.bool true]) (by simp[results,Tryz.results20,go_sem,y0,y1,y2]) rfl ?_;rw[<- hrs];exact⟨rfl,hBz⟩
     | some i =>
      obtain⟨v1,v2,v3⟩:=HV2.out.2.1 i rfl;have HVV:=Lib.hid (And.intro v1 (And.intro v2 (And.intro v3 HV2.out.2.2)));clear v1 v2 v3;go_upto_region 16 with (go_at_call 18;(with_reducible refine hbk.mono ?_);rintro e w10 ⟨rfl,hb10⟩;have H10:=Lib.hid (And.intro (below_on HB9.out.1 hb10) (heap_on (below_on H7.out.1 (below_on H9.out.1 hb10)) HBZ.out.2));have m4:=heap_on hb10 HB9.out.2;clear hbk hb10);clear z3 zl q0 q1 q2 ql;have z3:=nd_cell m4 3;have zl:=lt_of_heap m4;clear m4;go_wp2_with fail;go_roundg (k-j)
      case measure=>omega
      case rel=>exact⟨j+1,tg2,i,rfl,rfl,rfl,by omega,by omega,HVV.out.2.2.2,HVV.out.2.1,HVV.out.2.2.1,HVV.out.1,H10.out.1,H10.out.2⟩
    ·obtain rfl:j=k:=(by omega);have hvl:(u,true)=res:=(by rw[<- hval,valP_last hjp (by omega),hy,hu]);have HBZ:=Lib.hid (And.intro hB hZ);have HVL:=Lib.hid hvl;clear hpc hhas hii hval hB hZ hnext hcol hy hu hvl;have hjb:(j:Int)<(j:Int)+1:=(by omega);go_upto_region 18 with fail;refine Par.wp_region_par4 13 (JV W B 11 (fun idx=>[(Value.pointer (some ⟨d,0,none⟩)),.string xx,(Value.pointer (some ⟨tb2,0,none⟩)),.int .i64 ii,.slice (some ⟨bp,off,none⟩) (j+1) cap,.int .i64 (j:Int),(Value.pointer (some ⟨bp,off+j,none⟩)),.string y,.tuple #[(Value.agg #[Value.int .i64 (u.1),Value.int .i64 (u.2.1),Value.string (u.2.2)]),.bool true],(Value.agg #[Value.int .i64 (u.1),Value.int .i64 (u.2.1),Value.string (u.2.2)]),.bool true,undef,.bool true].getD idx undef) u) ?AL ?hmL ?hBL ?hAL ?hJL ?hopL ?hTL
     case hmL=>kernel_rfl
     case hBL=>kernel_rfl
     case hAL =>
      intro vs;simp only[Par.putA,Par.dstAt,Act.put,List.getElem?_toArray,List.getElem?_cons_zero,List.getElem?_cons_succ,Option.bind_some,List.setIfInBounds_toArray,List.set_cons_zero,List.set_cons_succ];rfl
     case hopL =>
      simp only[List.take_succ_cons,List.take_zero,Par.GiveAllK,and_true];and_intros<;>intro l vs w hJ hl hd hcl
      ·have HJ:=Lib.hid hJ;clear hJ hd hcl;simp only[Par.GivesW];go_simp;all_goals exact HJ.out.up 0 (by decide)
      ·have HJ:=Lib.hid hJ;clear hJ hd hcl;simp only[Par.GivesW];go_simp;all_goals exact HJ.out.up 1 (by decide)
      ·have HJ:=Lib.hid hJ;have d0:vs 0=(Value.pointer (some ⟨d,0,none⟩)):=hJ.ev 0 (by decide) (hd 0 (by kernel_rfl));have d1:vs 1=.string xx:=hJ.ev 1 (by decide) (hd 1 (by kernel_rfl));have hc:=(HG2.out w hJ.bel).1;clear hJ hd hcl;simp only[Par.GivesW,d0,d1];go_simp;refine hc.mono ?_;rintro e y2 ⟨rfl,hw⟩;exact⟨_,rfl,HJ.out.call (hw▸Below.refl _ _) 2 (by decide)⟩
      ·have HJ:=Lib.hid hJ;clear hJ hd hcl;simp only[Par.GivesW];go_simp;all_goals exact HJ.out.up 3 (by decide)
      ·have HJ:=Lib.hid hJ;clear hJ hd hcl;simp only[Par.GivesW];go_simp;all_goals exact HJ.out.up 4 (by decide)
      ·have HJ:=Lib.hid hJ;clear hJ hd hcl;simp only[Par.GivesW];go_simp;all_goals exact HJ.out.up 5 (by decide)
      ·have HJ:=Lib.hid hJ;have d4:vs 4=.slice (some ⟨bp,off,none⟩) (j+1) cap:=hJ.ev 4 (by decide) (hd 4 (by kernel_rfl));have d5:vs 5=.int .i64 (j:Int):=hJ.ev 5 (by decide) (hd 5 (by kernel_rfl));clear hJ hd hcl;simp only[Par.GivesW,d4,d5];go_simp;all_goals exact HJ.out.up 6 (by decide)
      ·have HJ:=Lib.hid hJ;have d6:vs 6=(Value.pointer (some ⟨bp,off+j,none⟩)):=hJ.ev 6 (by decide) (hd 6 (by kernel_rfl));have k:=HWORD.out w hJ.bel j (by rw[HN.out];exact Nat.lt_succ_self j);rw[HY.out] at k;have k0:=k.1;have k1:=k.2;clear k;clear hJ hd hcl;simp only[Par.GivesW,d6];go_simp;all_goals exact HJ.out.up 7 (by decide)
      ·have HJ:=Lib.hid hJ;have d2:vs 2=(Value.pointer (some ⟨tb2,0,none⟩)):=hJ.ev 2 (by decide) (hd 2 (by kernel_rfl));have d3:vs 3=.int .i64 ii:=hJ.ev 3 (by decide) (hd 3 (by kernel_rfl));have d7:vs 7=.string y:=hJ.ev 7 (by decide) (hd 7 (by kernel_rfl));have hc:=(HG2.out w hJ.bel).2;clear hJ hd hcl;simp only[Par.GivesW,d2,d3,d7];go_simp;refine hc.mono ?_;rintro e y2 ⟨rfl,hb⟩;exact⟨_,rfl,HJ.out.call hb 8 (by decide)⟩
      ·have HJ:=Lib.hid hJ;have d8:vs 8=.tuple #[(Value.agg #[Value.int .i64 (u.1),Value.int .i64 (u.2.1),Value.string (u.2.2)]),.bool true]:=hJ.ev 8 (by decide) (hd 8 (by kernel_rfl));clear hJ hd hcl;simp only[Par.GivesW,d8];go_simp;all_goals exact HJ.out.up 9 (by decide)
      ·have HJ:=Lib.hid hJ;have d8:vs 8=.tuple #[(Value.agg #[Value.int .i64 (u.1),Value.int .i64 (u.2.1),Value.string (u.2.2)]),.bool true]:=hJ.ev 8 (by decide) (hd 8 (by kernel_rfl));clear hJ hd hcl;simp only[Par.GivesW,d8];go_simp;all_goals exact HJ.out.up 10 (by decide)
      ·have HJ:=Lib.hid hJ;have d9:vs 9=(Value.agg #[Value.int .i64 (u.1),Value.int .i64 (u.2.1),Value.string (u.2.2)]):=hJ.ev 9 (by decide) (hd 9 (by kernel_rfl));have yz:=hJ.box.1;have yf:=hJ.box.2.1;obtain⟨v0,yc0⟩:=hJ.box.2.2.1;obtain⟨v1,yc1⟩:=hJ.box.2.2.2.1;obtain⟨v2,yc2⟩:=hJ.box.2.2.2.2;clear hJ hd hcl;simp only[Par.GivesW,d9];go_simp;all_goals exact HJ.out.store (Nat.le_of_eq HW.out.2.1) _
      ·have HJ:=Lib.hid hJ;have d10:vs 10=.bool true:=hJ.ev 10 (by decide) (hd 10 (by kernel_rfl));clear hJ hd hcl;simp only[Par.GivesW,d10];go_simp;all_goals exact HJ.out.up 12 (by decide)
     case hJL =>
      intro vs;exact⟨below_on HBZ.out.1 (below_drew wr),fun _ _ h=>(by cases h),_,_,_,heap_on (below_drew wr) HBZ.out.2,fun h=>(by cases h)⟩
     case hTL =>
      intro l vs w' hl hJ;simp only[List.drop_succ_cons,List.drop_nil];obtain⟨x0,x1,x2,hx,hx2⟩:=hJ.own;obtain⟨rfl,rfl,rfl⟩:=hx2 (hl 11 (by decide));have d12:vs 12=.bool true:=hJ.ev 12 (by decide) (hl 12 (by decide));simp only[d12];have hbel:=hJ.bel;have y0:=nd_cell hx 0;have y1:=nd_cell hx 1;have y2:=nd_cell hx 2;have HE:=Lib.hid hbel;have hrs:=HVL.out;clear hJ hl hx hx2 hbel;go_wp2_with fail;refine bodyPost_ret (v:=.tuple #[(Value.agg #[Value.int .i64 (u.1),Value.int .i64 (u.2.1),Value.string (u.2.2)]),.bool true]) (by simp[results,Tryz.results20,go_sem,y0,y1,y2]) rfl ?_;rw[<- hrs];exact⟨rfl,HE.out⟩
abbrev rowsN (tt:List RT):List (List R1):=tt.map (·.A)
section
variable {W:World} {b:Nat} {us:List T} {tt:List RT} {i:NI} {O:Nat->Nat}
theorem nbykey_any (h:DbN W b us tt i O) (hi:InvQ us) (hc1:∀ t∈us,t.cols.length<=1000) (hAl:∀ y∈tt,y.A.length<=100000) (x:ByteArray) (u:T3) :
  Calls Tryz.prog 19 #[(Value.pointer (some ⟨b,0,none⟩)),.string x,(Value.agg #[Value.int .i64 (u.1),Value.int .i64 (u.2.1),Value.string (u.2.2)])] W fun e w'=>e=.returned (.tuple #[.int .i64 ((byKeyP us (rowsN tt) x u).getD 0),.bool (byKeyP us (rowsN tt) x u).isSome])/\Below W.heap.size W w':=by
 rcases ixT_cases us x with ⟨h1,_,h3⟩ | ⟨j,hj,h1,_,h3⟩
 ·rw[byKeyP_neg (by omega)];exact nbykey_no h x u.1 u.2.1 u.2.2 (.inl (by omega))
 ·have hj':j<tt.length:=(by rw[h.n];exact hj);have hjr:j<(rowsN tt).length:=(by rw[List.length_map];exact hj');rw[byKeyP_at hj hjr h1];by_cases hk:us[j].key=e0
  ·rw[if_pos hk];exact nbykey_no h x u.1 u.2.1 u.2.2 (.inr ⟨j,hj,h1,.inl hk⟩)
  ·rw[if_neg hk];by_cases hu:u.1=0
   ·rw[if_pos hu];exact nbykey_no h x u.1 u.2.1 u.2.2 (.inr ⟨j,hj,h1,.inr hu⟩)
   ·rw[if_neg hu];have hg:=hi.key _ (List.getElem_mem hj)
    have hc:hasC us[j].cols us[j].key=true:=by
     unfold keyGood at hg;rw[Bool.or_eq_true] at hg;rcases hg with hg|hg
     ·rw[eqS_iff] at hg;exact absurd hg hk
     ·exact hg
    rcases ixC_casesQ us[j].cols us[j].key with ⟨_,h5,_⟩ | ⟨k,hk',h5,_⟩
    ·rw[h5] at hc;cases hc
    ·rw[h5]
     have:=nbykey_yes h hj (List.getElem?_eq_getElem hj') h1 hk hk' h5 u.1 u.2.1 u.2.2 hu (hAl _ (List.getElem_mem hj')) (hc1 _ (List.getElem_mem hj))
     simpa only[Int.toNat_natCast,rowsN,List.getElem_map] using this
structure NVn where
 t:Nat
 k:Nat
 c:Nat
 gs:Nat
 cs:Nat
 go:Nat
 co:Nat
 gr:Nat
 na:Nat
 cr:Nat
 gv:Nat
 cv:Nat
 nc:Nat
 bc:Nat
 oc:Nat
 kc:Nat
 pd:Option Addr
 nd:Nat
 kd:Nat
 nm:ByteArray
 key:ByteArray
structure NV (w:World) (b mt:Nat) (id:Int) (y:ByteArray) (u:T3) (tg:ByteArray) (x:NVn):Prop where
 b0:w.cell? ⟨b,0,none⟩=some (.slice (some ⟨x.gs,0,none⟩) mt x.cs)
 b1:w.cell? ⟨b,1,none⟩=some (.slice (some ⟨x.go,0,none⟩) mt x.co)
 s0:w.cell? ⟨x.gs,x.t*4,none⟩=some (.string x.nm)
 s1:w.cell? ⟨x.gs,x.t*4+1,none⟩=some (.slice (some ⟨x.bc,x.oc,none⟩) x.nc x.kc)
 s2:w.cell? ⟨x.gs,x.t*4+2,none⟩=some (.string x.key)
 s3:w.cell? ⟨x.gs,x.t*4+3,none⟩=some (.slice x.pd x.nd x.kd)
 o0:w.cell? ⟨x.go,x.t,none⟩=some (.slice (some ⟨x.gr,0,none⟩) x.na x.cr)
 r0:w.cell? ⟨x.gr,x.k*2+1,none⟩=some (.slice (some ⟨x.gv,0,none⟩) x.nc x.cv)
 v0:w.cell? ⟨x.gv,x.c*3,none⟩=some (.int .i64 u.1)
 v1:w.cell? ⟨x.gv,x.c*3+1,none⟩=some (.int .i64 u.2.1)
 v2:w.cell? ⟨x.gv,x.c*3+2,none⟩=some (.string u.2.2)
 tg:w.cell? ⟨x.bc,x.oc+x.c*4+3,none⟩=some (.string tg)
 bl:b<w.heap.size
 sl:x.gs<w.heap.size
 ol:x.go<w.heap.size
 rl:x.gr<w.heap.size
 vl:x.gv<w.heap.size
 cl:x.bc<w.heap.size
 atc:Calls Tryz.prog 65 #[(Value.pointer (some ⟨b,0,none⟩)),.int .i64 (x.t:Int),.int .i64 id] w fun e w'=>e=.returned (.int .i64 (x.k:Int))/\w'=w
 col:Calls Tryz.prog 61 #[.agg #[.string x.nm,.slice (some ⟨x.bc,x.oc,none⟩) x.nc x.kc,.string x.key,.slice x.pd x.nd x.kd],.string y] w fun e w'=>e=.returned (.int .i64 (x.c:Int))/\Below w.heap.size w w'
theorem nread (h:DbN W b us tt i O) (hc1:∀ t∈us,t.cols.length<=1000) (hAl:∀ y∈tt,y.A.length<=100000) {x y:ByteArray} (hc:hasC (colsAt us x) y=true) {id:Int} (hid:hasId (rowsAt us (rowsN tt) x) id=true) :
  ∃ n:NVn,ixT us x=(n.t:Int)/\n.t<us.length/\n.k<n.na/\n.na<=100000/\n.c<n.nc/\n.nc<=1000/\∀ w,Below W.heap.size W w->NV w b us.length id y (cellP us (rowsN tt) x id y) (tgtOf us x y) n:=by
 obtain⟨t,ht,hnm,hix,hf,hca,c,hcl,hcx⟩:=hasC_at hc;have ht':t<tt.length:=(by rw[h.n];exact ht);have hy:tt[t]?=some tt[t]:=List.getElem?_eq_getElem ht'
 have hr:rowsAt us (rowsN tt) x=tt[t].A:=by
  unfold rowsAt;rw[hix,Int.toNat_natCast,List.getElem?_map,hy];rfl
 rw[hr] at hid;have hx1:=h.ok ht hy;have hAt:=hAl _ (List.getElem_mem ht');obtain⟨⟨gs,cs,go,co,gn,cn,pc,kc',pd,kd'⟩,_,_,_,_,_,_,hR⟩:=h.reads ht hy;rcases atP_cases hx1.srt id with ⟨_,hno⟩ | ⟨k,hk,hat,hkid⟩
 ·obtain⟨a,ha,e⟩:=hasId_mem.1 hid;exact absurd e (hno a ha)
 ·have hkv:k<tt[t].vs.length:=(by rw[hx1.n];exact hk);have hvr:=hx1.vals k hk hkv;have hlen:=hx1.len _ (List.getElem_mem hk);have hc0:0<us[t].cols.length:=(by omega);rw[hlen] at hvr;obtain⟨gv,cv,r5,_,_⟩:=hvr.slice hc0;rw[r5] at hvr;obtain⟨gr,cr,r1,_,_⟩:=hx1.rows.slice (by omega);have hrr:=hx1.rows;rw[r1] at hrr;obtain⟨q1,q2⟩:=cellsR_at hx1.n hk;rw[r5] at q2;have hca':c<tt[t].A[k].2.length:=(by rw[hlen];exact hcl);obtain⟨u1,u2,u3⟩:=cells3_at tt[t].A[k].2 c hca';have hR0:=hR W (Below.refl _ _);obtain⟨bc,oc,hpc,_,_,_,_,_⟩:=RdC.col hR0.rd hcl;have hpc:pc=some ⟨bc,oc,none⟩:=hpc;subst hpc
  have hu:cellP us (rowsN tt) x id y=tt[t].A[k].2[c]:=by
   unfold cellP;rw[hr,hca,hcx,Int.toNat_natCast];obtain⟨a,ha,e,hc'⟩:=cellA_of hid;rw[hc'];obtain⟨k2,hk2,rfl⟩:=List.getElem_of_mem ha;have:k2=k:=srt_at hx1.srt hk2 hk (e.trans hkid.symm);subst this;rw[List.getD_eq_getElem?_getD,List.getElem?_eq_getElem hca'];rfl
  have htg:tgtOf us x y=us[t].cols[c].tgt:=by
   unfold tgtOf;rw[hca];rcases ixC_casesQ us[t].cols y with ⟨e1,_,_⟩ | ⟨c2,hc2,e1,_,e3⟩
   ·rw[e1] at hcx;omega
   ·rw[e3];have:c2=c:=(by rw[e1] at hcx;omega);subst this;rfl
  refine⟨⟨t,k,c,gs,cs,go,co,gr,tt[t].A.length,cr,gv,cv,us[t].cols.length,bc,oc,kc',pd,us[t].deps.length,kd',us[t].nm,us[t].key⟩,hix,ht,hk,hAt,hcl,hc1 _ (List.getElem_mem ht),fun w hb=>?_⟩;have hRw:=hR w hb;have hrw:=hrr.later hb;have hvw:=hvr.later hb;obtain⟨bb,oo,e1,hb2,d0,d1,d2,d3⟩:=RdC.col hRw.rd hcl;cases e1;have hatw:=nat_any (h.later hb) ht hy hAt id;rw[hat] at hatw;have hcolw:=rcolOf_any (x:=y) hRw.rt;rw[hcx] at hcolw;rw[hu,htg];refine⟨hRw.b0,hRw.b1,hRw.s0,hRw.s1,hRw.s2,hRw.s3,?_,hrw.cell q2,hvw.cell u1,hvw.cell u2,hvw.cell u3,d3,hRw.bl,hRw.sl,hRw.ol,(HRow.lt hrw gr rfl).2,(HRow.lt hvw gv rfl).2,hb2,hatw,hcolw⟩
  have:=hRw.o0
  rw[r1] at this;exact this
end
