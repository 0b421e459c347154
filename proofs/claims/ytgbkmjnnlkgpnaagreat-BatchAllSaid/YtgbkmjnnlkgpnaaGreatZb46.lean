import Derived.Test.YtgbkmjnnlkgpnaaGreatZb42
import Derived.Test.YtgbkmjnnlkgpnaaGreatZb45
namespace Go.Proofs.YtgbkmjnnlkgpnaaGreat
open Go Go.RowKit Go.Proofs Co Co.S
abbrev PT:Type:=Nat×List R1
abbrev keyN (y:RT):PT:=(y.nx,y.A)
def insP (t:T) (x:PT) (vals:List T3):PT:=if insE t vals=0 then (x.1+1,x.2++[((x.1:Int),vals)]) else x
def insN (t:T) (x:PT) (vals:List T3):Int:=if insE t vals=0 then (x.1:Int) else 0
def delP (x:PT) (id:Int):PT:=(x.1,without x.2 id)
def setP (t:T) (x:PT) (id:Int) (y:ByteArray) (v:T3):PT:=if setE t x.2 id y v=0 then (x.1,setA x.2 id (ixC t.cols y).toNat v) else x
def SmP (m:Nat) (x:PT):Prop:=x.1<=m/\x.2.length<=x.1
theorem SmP.ins {m:Nat} {x:PT} (h:SmP m x) (t:T) (vals:List T3):SmP (m+1) (insP t x vals):=by
 obtain⟨h1,h2⟩:=h;unfold insP;split
 ·refine⟨by show x.1+1<=m+1;omega,?_⟩;show (x.2++[((x.1:Int),vals)]).length<=x.1+1;rw[List.length_append];have:[((x.1:Int),vals)].length=1:=rfl;omega
 ·exact⟨by omega,h2⟩
theorem SmP.del {m:Nat} {x:PT} (h:SmP m x) (id:Int):SmP m (delP x id) :=
 ⟨h.1,Nat.le_trans (List.length_filter_le _ _) h.2⟩
theorem SmP.set {m:Nat} {x:PT} (h:SmP m x) (t:T) (id:Int) (y:ByteArray) (v:T3):SmP m (setP t x id y v):=by
 unfold setP;split
 ·exact⟨h.1,by show (setA x.2 id _ v).length<=x.1;rw[setA_len];exact h.2⟩
 ·exact h
theorem without_no {A:List R1} {x:Int} (h:∀ a∈A,a.1≠x):without A x=A:=by
 unfold without;rw[List.filter_eq_self];intro a ha;simpa using h a ha
theorem setE_yes {t:T} {A:List R1} {x:Int} {y:ByteArray} {v:T3} (h:setE t A x y v=0):(∃ a∈A,a.1=x)/\∃ j,∃ hj:j<t.cols.length,ixC t.cols y=(j:Int)/\inC t.cols[j].kd v=true:=by
 unfold setE at h;split at h
 ·rename_i h1;split at h
  ·rename_i h2;split at h
   ·rename_i h3;refine⟨ids_any.1 h1,?_⟩;rcases ixC_cases t.cols y with e|⟨j,hj,e⟩
    ·rw[e] at h2;exact absurd h2 (by decide)
    ·rw[e,Int.toNat_natCast,List.getElem?_eq_getElem hj] at h3;exact⟨j,hj,e,h3⟩
   ·exact absurd h (by decide)
  ·exact absurd h (by decide)
 ·exact absurd h (by decide)
section
variable {W w w':World} {d b:Nat} {ts us:List T} {st:List DT} {tt:List RT} {O:Nat->Nat} {i:NI} {j m:Nat}
theorem setSelf {α:Type} {l:List α} {j:Nat} (hj:j<l.length):l.set j l[j]=l:=List.set_getElem_self hj
theorem Dd.insP (h:Dd w d ts st O) (hj:j<ts.length) (hj':j<st.length) {S:Nat->Prop} {v:Value} {vals:List T3} (hv:InV S w v vals) (hS:∀ q,S q->O q=0) (hm:SmP m st[j].2) (hm3:m<=390) (hc:ts[j].cols.length<=1000) (hs:∀ x∈vals,x.2.2.size<=maxLen) (hl:vals.length<=1000000) :
  Calls Tryz.prog 35 #[(Value.pointer (some ⟨st[j].1,0,none⟩)),v] w fun e w'=>e=.returned (.tuple #[.int .i64 (insN ts[j] st[j].2 vals),.int .i64 (insE ts[j] vals)])/\∃ O',Dd w' d ts (st.set j (st[j].1,YtgbkmjnnlkgpnaaGreat.insP ts[j] st[j].2 vals)) O'/\Ext w O O'/\Tn (fun q=>O q=j+2) w w':=by
 unfold insN YtgbkmjnnlkgpnaaGreat.insP;by_cases hyes:insE ts[j] vals=0
 ·rw[if_pos hyes,if_pos hyes,hyes];exact h.turn hj hj' (R:=fun e=>e=.returned (.tuple #[.int .i64 (st[j].2.1:Int),.int .i64 0])) (fun lab hT hlO=>tb_ins_yes hT hv (fun q hq=>Classical.byContradiction fun hn=>by have h1:=hlO q hn;rw[hS q hq] at h1;omega) (by have:=hm.1;omega) hc hs hl hyes)
 ·rw[if_neg hyes,if_neg hyes];obtain⟨lab,hT,_⟩:=h.tab j hj hj';refine (tb_ins_no hT hv (by have:=hm.1;omega) hc hs hl hyes).mono ?_;rintro e w' ⟨rfl,hb⟩;refine⟨rfl,O,?_,fun q hq=>rfl,Tn.of_below hb⟩;rw[show ((st[j].1,st[j].2):DT)=st[j] from rfl,setSelf hj'];exact h.later hb
theorem Dd.delP (h:Dd w d ts st O) (hj:j<ts.length) (hj':j<st.length) {id:Int} (hid:F64 id) (hm:SmP m st[j].2) (hm3:m<=390) (hc:ts[j].cols.length<=1000) :
  Calls Tryz.prog 37 #[(Value.pointer (some ⟨st[j].1,0,none⟩)),.int .i64 id] w fun e w'=>e=.returned (.bool (hasId st[j].2.2 id))/\∃ O',Dd w' d ts (st.set j (st[j].1,YtgbkmjnnlkgpnaaGreat.delP st[j].2 id)) O'/\Ext w O O'/\Tn (fun q=>O q=j+2) w w':=by
 unfold YtgbkmjnnlkgpnaaGreat.delP;cases hh:hasId st[j].2.2 id with
 | true =>
  obtain⟨a,ha,rfl⟩:=hasId_mem.1 hh;exact h.turn hj hj' (R:=fun e=>e=.returned (.bool true)) (fun lab hT hlO=>tb_del_yes hT ha (by have:=hm.1;omega) hc)
 | false =>
  obtain⟨lab,hT,_⟩:=h.tab j hj hj';have hno:=hasId_no.1 hh;refine (tb_del_no hT hid hno).mono ?_;rintro e w' ⟨rfl,rfl⟩;refine⟨rfl,O,?_,fun q hq=>rfl,Tn.refl _ _⟩;rw[without_no hno,show ((st[j].1,(st[j].2.1,st[j].2.2)):DT)=st[j] from rfl,setSelf hj'];exact h
theorem Dd.setP (h:Dd w d ts st O) (hj:j<ts.length) (hj':j<st.length) {id:Int} (hid:F64 id) (y:ByteArray) (u:T3) (hs:u.2.2.size<=maxLen) (hm:SmP m st[j].2) (hm3:m<=390) :
  Calls Tryz.prog 39 #[(Value.pointer (some ⟨st[j].1,0,none⟩)),.int .i64 id,.string y,(Value.agg #[Value.int .i64 (u.1),Value.int .i64 (u.2.1),Value.string (u.2.2)])] w fun e w'=>e=.returned (.int .i64 (setE ts[j] st[j].2.2 id y u))/\∃ O',Dd w' d ts (st.set j (st[j].1,YtgbkmjnnlkgpnaaGreat.setP ts[j] st[j].2 id y u)) O'/\Ext w O O'/\Tn (fun q=>O q=j+2) w w':=by
 unfold YtgbkmjnnlkgpnaaGreat.setP;by_cases hyes:setE ts[j] st[j].2.2 id y u=0
 ·rw[if_pos hyes,hyes];obtain⟨⟨a,ha,rfl⟩,k,hk,hy,hin⟩:=setE_yes hyes;rw[hy,Int.toNat_natCast];exact h.turn hj hj' (R:=fun e=>e=.returned (.int .i64 0)) (fun lab hT hlO=>tb_set_yes hT ha (by have:=hm.1;omega) hk hy u.1 u.2.1 u.2.2 hs hin)
 ·rw[if_neg hyes];obtain⟨lab,hT,_⟩:=h.tab j hj hj';refine (tb_set_no hT hid y u.1 u.2.1 u.2.2 hs hyes).mono ?_;rintro e w' ⟨rfl,hb⟩;refine⟨rfl,O,?_,fun q hq=>rfl,Tn.of_below hb⟩;rw[show ((st[j].1,st[j].2):DT)=st[j] from rfl,setSelf hj'];exact h.later hb
theorem DbN.insP (h:DbN w b ts tt i O) (hj:j<ts.length) (hj':j<tt.length) {S:Nat->Prop} {v:Value} {vals:List T3} (hv:InV S w v vals) (hS:∀ q,S q->O q=0) (hm:SmP m (keyN tt[j])) (hm3:m<=390) (hc:ts[j].cols.length<=1000) (h0:0<ts[j].cols.length) (hs:∀ x∈vals,x.2.2.size<=maxLen) (hl:vals.length<=1000000) :
  Calls Tryz.prog 36 #[(Value.pointer (some ⟨b,0,none⟩)),.int .i64 (j:Int),v] w fun e w'=>e=.returned (.tuple #[.int .i64 (insN ts[j] (keyN tt[j]) vals),.int .i64 (insE ts[j] vals)])/\∃ tt' O',DbN w' b ts tt' i O'/\tt'.map keyN=(tt.map keyN).set j (YtgbkmjnnlkgpnaaGreat.insP ts[j] (keyN tt[j]) vals)/\Ext w O O'/\Tn (fun q=>O q≠0) w w':=by
 unfold insN YtgbkmjnnlkgpnaaGreat.insP;obtain⟨m1,m2⟩:=hm;have m1:tt[j].nx<=m:=m1;have m2:tt[j].A.length<=tt[j].nx:=m2;by_cases hyes:insE ts[j] vals=0
 ·rw[if_pos hyes,if_pos hyes,hyes];refine (nins_yes h hj (List.getElem?_eq_getElem hj') hv hS hs hc h0 hl (by omega) (by omega) hyes).mono ?_;rintro e w' ⟨rfl,x,O',a1,a2,a3,a4,a5⟩;refine⟨rfl,_,O',a1,?_,a4,a5⟩;rw[List.map_set]
  congr 1
  show (x.nx,x.A)=_;rw[a2,a3]
 ·rw[if_neg hyes,if_neg hyes];refine (nins_no h hj (List.getElem?_eq_getElem hj') hv hs hc hl hyes).mono ?_;rintro e w' ⟨rfl,hb⟩;refine⟨rfl,tt,O,h.later hb,?_,fun q hq=>rfl,Tn.of_below hb⟩;rw[show keyN tt[j]=(tt.map keyN)[j]'(by rw[List.length_map];exact hj') by rw[List.getElem_map],setSelf]
theorem DbN.delP (h:DbN w b ts tt i O) (hj:j<ts.length) (hj':j<tt.length) (id:Int) (hm:SmP m (keyN tt[j])) (hm3:m<=390) :
  Calls Tryz.prog 38 #[(Value.pointer (some ⟨b,0,none⟩)),.int .i64 (j:Int),.int .i64 id] w fun e w'=>e=.returned (.bool (hasId tt[j].A id))/\∃ tt' O',DbN w' b ts tt' i O'/\tt'.map keyN=(tt.map keyN).set j (YtgbkmjnnlkgpnaaGreat.delP (keyN tt[j]) id)/\Ext w O O'/\Tn (fun q=>O q≠0) w w':=by
 unfold YtgbkmjnnlkgpnaaGreat.delP;obtain⟨m1,m2⟩:=hm;have m1:tt[j].nx<=m:=m1;have m2:tt[j].A.length<=tt[j].nx:=m2;cases hh:hasId tt[j].A id with
 | true =>
  obtain⟨a,ha,rfl⟩:=hasId_mem.1 hh;obtain⟨k,hk,rfl⟩:=List.getElem_of_mem ha;refine (ndel_yes h hj (List.getElem?_eq_getElem hj') (by omega) hk).mono ?_;rintro e w' ⟨rfl,x,O',a1,a2,a3,a4,a5⟩;refine⟨rfl,_,O',a1,?_,a4,a5⟩;rw[List.map_set]
  congr 1
  show (x.nx,x.A)=_;rw[a2,a3]
 | false =>
  have hno:=hasId_no.1 hh;refine (ndel_no h hj (List.getElem?_eq_getElem hj') (by omega) hno).mono ?_;rintro e w' ⟨rfl,rfl⟩;refine⟨rfl,tt,O,h,?_,fun q hq=>rfl,Tn.refl _ _⟩;show tt.map keyN=(tt.map keyN).set j (tt[j].nx,without tt[j].A id);rw[without_no hno,show (tt[j].nx,tt[j].A)=(tt.map keyN)[j]'(by rw[List.length_map];exact hj') by rw[List.getElem_map],setSelf]
theorem DbN.setP (h:DbN w b ts tt i O) (hj:j<ts.length) (hj':j<tt.length) (id:Int) (y:ByteArray) (u:T3) (hs:u.2.2.size<=maxLen) (h0:0<ts[j].cols.length) (hm:SmP m (keyN tt[j])) (hm3:m<=390) :
  Calls Tryz.prog 40 #[(Value.pointer (some ⟨b,0,none⟩)),.int .i64 (j:Int),.int .i64 id,.string y,(Value.agg #[Value.int .i64 (u.1),Value.int .i64 (u.2.1),Value.string (u.2.2)])] w fun e w'=>e=.returned (.int .i64 (setE ts[j] tt[j].A id y u))/\∃ tt' O',DbN w' b ts tt' i O'/\tt'.map keyN=(tt.map keyN).set j (YtgbkmjnnlkgpnaaGreat.setP ts[j] (keyN tt[j]) id y u)/\Ext w O O'/\Tn (fun q=>O q≠0) w w':=by
 unfold YtgbkmjnnlkgpnaaGreat.setP;obtain⟨m1,m2⟩:=hm;have m1:tt[j].nx<=m:=m1;have m2:tt[j].A.length<=tt[j].nx:=m2;refine (nset_any h hj (List.getElem?_eq_getElem hj') (by omega) h0 id y u.1 u.2.1 u.2.2 hs).mono ?_;rintro e w' ⟨rfl,x,a1,a2,a3,a4⟩;refine⟨rfl,_,O,a1,?_,fun q hq=>rfl,a4⟩;rw[List.map_set]
 congr 1
 show (x.nx,x.A)=_;rw[a2,a3];show (tt[j].nx,if setE ts[j] tt[j].A id y u=0 then _ else _)=if setE ts[j] tt[j].A id y u=0 then _ else _
 split <;> rfl
end
section
variable {K K':Nat->Prop} {W W0 w w':World} {d b:Nat} {ts us:List T} {st st':List DT} {tt tt':List RT}
theorem PS.turnD2 (h:PS K W0 w d ts st b us tt) {f:FuncId} {args:Array Value} {R:Ending->Prop} {ts':List T} {Q:List DT->Prop}
  (hc:∀ Od,Dd w d ts st Od->(∀ q,K q->Od q=0)->Calls Tryz.prog f args w fun e w'=>R e/\∃ st' O',Q st'/\Dd w' d ts' st' O'/\Ext w Od O'/\Tn (fun q=>Od q≠0) w w') :
  Calls Tryz.prog f args w fun e w'=>R e/\∃ st',Q st'/\PS K W0 w' d ts' st' b us tt:=by
 obtain⟨Od,Ob,i,h1,h2,h3,h4,h5⟩:=h;refine (hc Od h1 (fun q hq=>(h4 q hq).2.1)).mono ?_;rintro e w' ⟨hR,st',O',hQ,hD,hE,hT⟩;have hlt:∀ q,Ob q≠0->q<w.heap.size:=h2.lt;refine⟨hR,st',hQ,O',Ob,i,hD,h2.tn hT (fun q hq=>h3 q hq),fun q hq=>?_,fun q hq=>?_,h5.trans hT (fun _ _ h=>h) (fun q _ hq hK=>hq (h4 q hK).2.1)⟩
 ·refine Classical.byContradiction fun hn=>?_
  have hl:=hlt q hn;rw[hE q hl] at hq;exact hn (h3 q hq)
 ·obtain⟨k1,k2,k3⟩:=h4 q hq;exact⟨k1,(hE q (Nat.lt_of_lt_of_le k1 h5.size)).trans k2,k3⟩
theorem PS.turnN2 (h:PS K W0 w d ts st b us tt) {f:FuncId} {args:Array Value} {R:Ending->Prop} {us':List T} {Q:List RT->Prop}
  (hc:∀ i Ob,DbN w b us tt i Ob->(∀ q,K q->Ob q=0)->Calls Tryz.prog f args w fun e w'=>R e/\∃ tt' i' O',Q tt'/\DbN w' b us' tt' i' O'/\Ext w Ob O'/\Tn (fun q=>Ob q≠0) w w') :
  Calls Tryz.prog f args w fun e w'=>R e/\∃ tt',Q tt'/\PS K W0 w' d ts st b us' tt':=by
 obtain⟨Od,Ob,i,h1,h2,h3,h4,h5⟩:=h;refine (hc i Ob h2 (fun q hq=>(h4 q hq).2.2)).mono ?_;rintro e w' ⟨hR,tt',i',O',hQ,hD,hE,hT⟩;refine⟨hR,tt',hQ,Od,O',i',h1.tn hT (fun q hq=>Classical.byContradiction fun hn=>hq (h3 q hn)),hD,fun q hq=>?_,fun q hq=>?_,h5.trans hT (fun _ _ h=>h) (fun q _ hq hK=>hq (h4 q hK).2.2)⟩
 ·rw[hE q (h1.lt q hq)];exact h3 q hq
 ·obtain⟨k1,k2,k3⟩:=h4 q hq;exact⟨k1,k2,(hE q (Nat.lt_of_lt_of_le k1 h5.size)).trans k3⟩
theorem PS.with (h:PS K W0 w d ts st b us tt) (hb:Below w.heap.size w w'):PS (fun q=>K q∨(w.heap.size<=q/\q<w'.heap.size)) w' w' d ts st b us tt:=by
 obtain⟨Od,Ob,i,h1,h2,h3,h4,h5⟩:=h;refine⟨Od,Ob,i,h1.later hb,h2.later hb,h3,fun q hq=>?_,Tn.refl _ _⟩;rcases hq with hq|⟨q1,q2⟩
 ·obtain⟨k1,k2,k3⟩:=h4 q hq;exact⟨Nat.lt_of_lt_of_le (Nat.lt_of_lt_of_le k1 h5.size) hb.size,k2,k3⟩
 ·exact⟨q2,Classical.byContradiction fun hn=>by have:=h1.lt q hn;omega,Classical.byContradiction fun hn=>by have:=h2.lt q hn;omega⟩
theorem PS.back (h:PS K W0 w d ts st b us tt) {ts' us':List T} (h2:PS K' w w' d ts' st' b us' tt') (hk:∀ q,K q->K' q):PS K W0 w' d ts' st' b us' tt':=by
 obtain⟨_,_,_,_,_,_,h4,h5⟩:=h;obtain⟨Od,Ob,i,a1,a2,a3,a4,a5⟩:=h2;exact⟨Od,Ob,i,a1,a2,a3,fun q hq=>⟨(h4 q hq).1,(a4 q (hk q hq)).2⟩,h5.trans a5 (fun _ _ h=>h) (fun q _ hn hq=>hn (hk q hq))⟩
theorem PS.bel (h:PS K W0 w d ts st b us tt) (hb:Below W.heap.size W W0) (hk:∀ q,q<W.heap.size->K q):Below W.heap.size W w:=by
 obtain⟨_,_,_,_,_,_,_,h5⟩:=h;exact hb.trans (h5.chg.below hb.size (fun q hq hn=>Classical.byContradiction fun hlt=>hn (hk q (by omega))))
theorem PS.lenD (h:PS K W0 w d ts st b us tt):st.length=ts.length:=by obtain⟨_,_,_,h1,_⟩:=h;exact h1.len
theorem PS.lenN (h:PS K W0 w d ts st b us tt):tt.length=us.length:=by obtain⟨_,_,_,_,h2,_⟩:=h;exact h2.n
end
def PD (K:Nat->Prop) (W0 w:World) (d b:Nat) (ts:List T) (ps:List Nat) (L1 L2:List PT):Prop:=∃ st tt,PS K W0 w d ts st b ts tt/\st.map (·.1)=ps/\st.map (·.2)=L1/\tt.map keyN=L2
section
variable {K K':Nat->Prop} {W W0 w w':World} {d b:Nat} {ts:List T} {ps:List Nat} {L1 L2:List PT} {j m:Nat}
theorem PD.len (h:PD K W0 w d b ts ps L1 L2):ps.length=ts.length/\L1.length=ts.length/\L2.length=ts.length:=by
 obtain⟨st,tt,h1,rfl,rfl,rfl⟩:=h;exact⟨by rw[List.length_map];exact h1.lenD,by rw[List.length_map];exact h1.lenD,by rw[List.length_map];exact h1.lenN⟩
theorem PD.later (h:PD K W0 w d b ts ps L1 L2) (hb:Below w.heap.size w w'):PD K W0 w' d b ts ps L1 L2:=by
 obtain⟨st,tt,h1,h2⟩:=h;exact⟨st,tt,h1.later hb,h2⟩
theorem PD.with (h:PD K W0 w d b ts ps L1 L2) (hb:Below w.heap.size w w'):PD (fun q=>K q∨(w.heap.size<=q/\q<w'.heap.size)) w' w' d b ts ps L1 L2:=by
 obtain⟨st,tt,h1,h2⟩:=h;exact⟨st,tt,h1.with hb,h2⟩
theorem PD.back (h:PD K W0 w d b ts ps L1 L2) {L3 L4:List PT} (h2:PD K' w w' d b ts ps L3 L4) (hk:∀ q,K q->K' q):PD K W0 w' d b ts ps L3 L4:=by
 obtain⟨st,tt,h1,_⟩:=h;obtain⟨st',tt',a1,a2⟩:=h2;exact⟨st',tt',h1.back a1 hk,a2⟩
theorem PD.bel (h:PD K W0 w d b ts ps L1 L2) (hb:Below W.heap.size W W0) (hk:∀ q,q<W.heap.size->K q):Below W.heap.size W w:=by
 obtain⟨st,tt,h1,_⟩:=h;exact h1.bel hb hk
theorem PD.still (h:PD K W0 w d b ts ps L1 L2) {q:Nat} (hq:K q):w.heap[q]?=W0.heap[q]?:=by
 obtain⟨st,tt,h1,_⟩:=h;exact h1.still hq
theorem PD.dd (h:PD K W0 w d b ts ps L1 L2):∃ st O,Dd w d ts st O/\st.map (·.1)=ps/\st.map (·.2)=L1:=by
 obtain⟨st,tt,⟨Od,_,_,h1,_⟩,h2,h3,_⟩:=h;exact⟨st,Od,h1,h2,h3⟩
theorem PD.dbn (h:PD K W0 w d b ts ps L1 L2):∃ tt i O,DbN w b ts tt i O/\tt.map keyN=L2:=by
 obtain⟨st,tt,⟨_,Ob,i,_,h1,_⟩,_,_,h3⟩:=h;exact⟨tt,i,Ob,h1,h3⟩
theorem PD.table (h:PD K W0 w d b ts ps L1 L2) (hj:j<ts.length) (hx:ts[j].nm.size<=maxLen) (hp:j<ps.length):Calls Tryz.prog 29 #[(Value.pointer (some ⟨d,0,none⟩)),.string ts[j].nm] w fun e w'=>e=.returned (Value.pointer (some ⟨ps[j],0,none⟩))/\w'=w:=by
 obtain⟨st,O,h1,rfl,_⟩:=h.dd;rw[List.getElem_map];exact h1.table hj hx (by rw[h1.len];exact hj)
theorem map_st {st:List DT} (hj:j<st.length) (x:PT):((st.set j (st[j].1,x)).map (·.1)=st.map (·.1))/\((st.set j (st[j].1,x)).map (·.2)=(st.map (·.2)).set j x):=by
 rw[List.map_set,List.map_set];refine⟨?_,rfl⟩;have:(st.map (·.1))[j]'(by rw[List.length_map];exact hj)=st[j].1:=(by rw[List.getElem_map]);rw[<- this];exact setSelf _
theorem PD.insD (h:PD K W0 w d b ts ps L1 L2) (hj:j<ts.length) (hp:j<ps.length) (hL:j<L1.length) {S:Nat->Prop} {v:Value} {vals:List T3} (hv:InV S w v vals) (hS:∀ q,S q->K q) (hm:SmP m L1[j]) (hm3:m<=390) (hc:ts[j].cols.length<=1000) (hs:∀ x∈vals,x.2.2.size<=maxLen) (hl:vals.length<=1000000) :
  Calls Tryz.prog 35 #[(Value.pointer (some ⟨ps[j],0,none⟩)),v] w fun e w'=>e=.returned (.tuple #[.int .i64 (insN ts[j] L1[j] vals),.int .i64 (insE ts[j] vals)])/\PD K W0 w' d b ts ps (L1.set j (insP ts[j] L1[j] vals)) L2:=by
 obtain⟨st,tt,h1,rfl,rfl,rfl⟩:=h;have hj':j<st.length:=(by rw[h1.lenD];exact hj);simp only[List.getElem_map] at hm ⊢;refine (h1.turnD2 (ts':=ts) (R:=fun e=>e=.returned (.tuple #[.int .i64 (insN ts[j] st[j].2 vals),.int .i64 (insE ts[j] vals)])) (Q:=fun st'=>st'=st.set j (st[j].1,insP ts[j] st[j].2 vals)) (fun Od hD hK=>?_)).mono ?_
 ·refine (hD.insP hj hj' hv (fun q hq=>hK q (hS q hq)) hm hm3 hc hs hl).mono ?_;rintro e w' ⟨rfl,O',a1,a2,a3⟩;exact⟨rfl,_,O',rfl,a1,a2,a3.mono (fun q _ hq=>by have hq:Od q=j+2:=hq;show Od q≠0;omega)⟩
 ·rintro e w' ⟨rfl,st',rfl,hP⟩;obtain⟨e1,e2⟩:=map_st hj' (insP ts[j] st[j].2 vals);exact⟨rfl,_,tt,hP,e1,e2,rfl⟩
theorem PD.delD (h:PD K W0 w d b ts ps L1 L2) (hj:j<ts.length) (hp:j<ps.length) (hL:j<L1.length) {id:Int} (hid:F64 id) (hm:SmP m L1[j]) (hm3:m<=390) (hc:ts[j].cols.length<=1000) :
  Calls Tryz.prog 37 #[(Value.pointer (some ⟨ps[j],0,none⟩)),.int .i64 id] w fun e w'=>e=.returned (.bool (hasId L1[j].2 id))/\PD K W0 w' d b ts ps (L1.set j (delP L1[j] id)) L2:=by
 obtain⟨st,tt,h1,rfl,rfl,rfl⟩:=h;have hj':j<st.length:=(by rw[h1.lenD];exact hj);simp only[List.getElem_map] at hm ⊢;refine (h1.turnD2 (ts':=ts) (R:=fun e=>e=.returned (.bool (hasId st[j].2.2 id))) (Q:=fun st'=>st'=st.set j (st[j].1,delP st[j].2 id)) (fun Od hD hK=>?_)).mono ?_
 ·refine (hD.delP hj hj' hid hm hm3 hc).mono ?_;rintro e w' ⟨rfl,O',a1,a2,a3⟩;exact⟨rfl,_,O',rfl,a1,a2,a3.mono (fun q _ hq=>by have hq:Od q=j+2:=hq;show Od q≠0;omega)⟩
 ·rintro e w' ⟨rfl,st',rfl,hP⟩;obtain⟨e1,e2⟩:=map_st hj' (delP st[j].2 id);exact⟨rfl,_,tt,hP,e1,e2,rfl⟩
theorem PD.setD (h:PD K W0 w d b ts ps L1 L2) (hj:j<ts.length) (hp:j<ps.length) (hL:j<L1.length) {id:Int} (hid:F64 id) (y:ByteArray) (u:T3) (hs:u.2.2.size<=maxLen) (hm:SmP m L1[j]) (hm3:m<=390) :
  Calls Tryz.prog 39 #[(Value.pointer (some ⟨ps[j],0,none⟩)),.int .i64 id,.string y,(Value.agg #[Value.int .i64 (u.1),Value.int .i64 (u.2.1),Value.string (u.2.2)])] w fun e w'=>e=.returned (.int .i64 (setE ts[j] L1[j].2 id y u))/\PD K W0 w' d b ts ps (L1.set j (setP ts[j] L1[j] id y u)) L2:=by
 obtain⟨st,tt,h1,rfl,rfl,rfl⟩:=h;have hj':j<st.length:=(by rw[h1.lenD];exact hj);simp only[List.getElem_map] at hm ⊢;refine (h1.turnD2 (ts':=ts) (R:=fun e=>e=.returned (.int .i64 (setE ts[j] st[j].2.2 id y u))) (Q:=fun st'=>st'=st.set j (st[j].1,setP ts[j] st[j].2 id y u)) (fun Od hD hK=>?_)).mono ?_
 ·refine (hD.setP hj hj' hid y u hs hm hm3).mono ?_;rintro e w' ⟨rfl,O',a1,a2,a3⟩;exact⟨rfl,_,O',rfl,a1,a2,a3.mono (fun q _ hq=>by have hq:Od q=j+2:=hq;show Od q≠0;omega)⟩
 ·rintro e w' ⟨rfl,st',rfl,hP⟩;obtain⟨e1,e2⟩:=map_st hj' (setP ts[j] st[j].2 id y u);exact⟨rfl,_,tt,hP,e1,e2,rfl⟩
theorem PD.insN (h:PD K W0 w d b ts ps L1 L2) (hj:j<ts.length) (hL:j<L2.length) {S:Nat->Prop} {v:Value} {vals:List T3} (hv:InV S w v vals) (hS:∀ q,S q->K q) (hm:SmP m L2[j]) (hm3:m<=390) (hc:ts[j].cols.length<=1000) (h0:0<ts[j].cols.length) (hs:∀ x∈vals,x.2.2.size<=maxLen) (hl:vals.length<=1000000) :
  Calls Tryz.prog 36 #[(Value.pointer (some ⟨b,0,none⟩)),.int .i64 (j:Int),v] w fun e w'=>e=.returned (.tuple #[.int .i64 (YtgbkmjnnlkgpnaaGreat.insN ts[j] L2[j] vals),.int .i64 (insE ts[j] vals)])/\PD K W0 w' d b ts ps L1 (L2.set j (insP ts[j] L2[j] vals)):=by
 obtain⟨st,tt,h1,rfl,rfl,rfl⟩:=h;have hj':j<tt.length:=(by rw[h1.lenN];exact hj);simp only[List.getElem_map] at hm ⊢;refine (h1.turnN2 (us':=ts) (R:=fun e=>e=.returned (.tuple #[.int .i64 (YtgbkmjnnlkgpnaaGreat.insN ts[j] (keyN tt[j]) vals),.int .i64 (insE ts[j] vals)])) (Q:=fun tt'=>tt'.map keyN=(tt.map keyN).set j (insP ts[j] (keyN tt[j]) vals)) (fun i Ob hD hK=>?_)).mono ?_
 ·refine (hD.insP hj hj' hv (fun q hq=>hK q (hS q hq)) hm hm3 hc h0 hs hl).mono ?_;rintro e w' ⟨rfl,tt',O',a1,a2,a3,a4⟩;exact⟨rfl,tt',i,O',a2,a1,a3,a4⟩
 ·rintro e w' ⟨rfl,tt',hQ,hP⟩;exact⟨rfl,st,tt',hP,rfl,rfl,hQ⟩
theorem PD.delN (h:PD K W0 w d b ts ps L1 L2) (hj:j<ts.length) (hL:j<L2.length) (id:Int) (hm:SmP m L2[j]) (hm3:m<=390) :
  Calls Tryz.prog 38 #[(Value.pointer (some ⟨b,0,none⟩)),.int .i64 (j:Int),.int .i64 id] w fun e w'=>e=.returned (.bool (hasId L2[j].2 id))/\PD K W0 w' d b ts ps L1 (L2.set j (delP L2[j] id)):=by
 obtain⟨st,tt,h1,rfl,rfl,rfl⟩:=h;have hj':j<tt.length:=(by rw[h1.lenN];exact hj);simp only[List.getElem_map] at hm ⊢;refine (h1.turnN2 (us':=ts) (R:=fun e=>e=.returned (.bool (hasId (keyN tt[j]).2 id))) (Q:=fun tt'=>tt'.map keyN=(tt.map keyN).set j (delP (keyN tt[j]) id)) (fun i Ob hD hK=>?_)).mono ?_
 ·refine (hD.delP hj hj' id hm hm3).mono ?_;rintro e w' ⟨rfl,tt',O',a1,a2,a3,a4⟩;exact⟨rfl,tt',i,O',a2,a1,a3,a4⟩
 ·rintro e w' ⟨rfl,tt',hQ,hP⟩;exact⟨rfl,st,tt',hP,rfl,rfl,hQ⟩
theorem PD.setN (h:PD K W0 w d b ts ps L1 L2) (hj:j<ts.length) (hL:j<L2.length) (id:Int) (y:ByteArray) (u:T3) (hs:u.2.2.size<=maxLen) (h0:0<ts[j].cols.length) (hm:SmP m L2[j]) (hm3:m<=390) :
  Calls Tryz.prog 40 #[(Value.pointer (some ⟨b,0,none⟩)),.int .i64 (j:Int),.int .i64 id,.string y,(Value.agg #[Value.int .i64 (u.1),Value.int .i64 (u.2.1),Value.string (u.2.2)])] w fun e w'=>e=.returned (.int .i64 (setE ts[j] L2[j].2 id y u))/\PD K W0 w' d b ts ps L1 (L2.set j (setP ts[j] L2[j] id y u)):=by
 obtain⟨st,tt,h1,rfl,rfl,rfl⟩:=h;have hj':j<tt.length:=(by rw[h1.lenN];exact hj);simp only[List.getElem_map] at hm ⊢;refine (h1.turnN2 (us':=ts) (R:=fun e=>e=.returned (.int .i64 (setE ts[j] (keyN tt[j]).2 id y u))) (Q:=fun tt'=>tt'.map keyN=(tt.map keyN).set j (setP ts[j] (keyN tt[j]) id y u)) (fun i Ob hD hK=>?_)).mono ?_
 ·refine (hD.setP hj hj' id y u hs h0 hm hm3).mono ?_;rintro e w' ⟨rfl,tt',O',a1,a2,a3,a4⟩;exact⟨rfl,tt',i,O',a2,a1,a3,a4⟩
 ·rintro e w' ⟨rfl,tt',hQ,hP⟩;exact⟨rfl,st,tt',hP,rfl,rfl,hQ⟩
end
theorem star_pd (W:World):Calls Tryz.prog 12 #[] W fun e w'=>∃ d b ps,e=.returned (.tuple #[(Value.pointer (some ⟨d,0,none⟩)),(Value.pointer (some ⟨b,0,none⟩))])/\PD (fun q=>q<W.heap.size) W w' d b (pre 4) ps (List.replicate 4 (0,[])) (List.replicate 4 (0,[])):=by
 refine (star12_any W).mono ?_;rintro e w' ⟨rfl,K,w3,st,hb,hK,⟨Od,Ob,i,h1,h2,h3,h4,h5⟩,hst⟩;refine⟨_,_,st.map (·.1),rfl,st,List.replicate 4 rt0,⟨Od,Ob,i,h1,h2,h3,fun q hq=>⟨hq,(h4 q (hK q hq)).2⟩,(Tn.of_below (S:=fun _=>False) hb).trans h5 (fun _ _ h=>h.elim) (fun q _ hn hq=>hn (hK q hq))⟩,rfl,hst,rfl⟩
