import Derived.Test.YtgbkmjnnlkgpnaaGreatZe41
import Derived.Test.YtgbkmjnnlkgpnaaGreatZe42
namespace Go.Proofs.YtgbkmjnnlkgpnaaGreat
open Go Go.RowKit Go.Proofs Co Co.S
abbrev PT:Type:=Nat×List R1
abbrev dB (y:RT):PT:=(y.nx,y.A)
def insP (t:T) (x:PT) (vals:List T3):PT:=if cU t vals=0 then (x.1+1,x.2++[((x.1:Int),vals)]) else x
def insN (t:T) (x:PT) (vals:List T3):Int:=if cU t vals=0 then (x.1:Int) else 0
def delP (x:PT) (id:Int):PT:=(x.1,without x.2 id)
def setP (t:T) (x:PT) (id:Int) (y:ByteArray) (v:T3):PT:=if gQ t x.2 id y v=0 then (x.1,dU x.2 id (ixC t.cols y).toNat v) else x
def SmP (m:Nat) (x:PT):Prop:=x.1<=m/\x.2.length<=x.1
theorem SmP.ins {m:Nat} {x:PT} (h:SmP m x) (t:T) (vals:List T3):SmP (m+1) (insP t x vals):=by
 obtain⟨h1,h2⟩:=h;unfold insP;split
 ·refine⟨by show x.1+1<=m+1;omega,?_⟩;show (x.2++[((x.1:Int),vals)]).length<=x.1+1;rw[List.length_append];have:[((x.1:Int),vals)].length=1:=rfl;omega
 exact⟨by omega,h2⟩
theorem SmP.del {m:Nat} {x:PT} (h:SmP m x) (id:Int):SmP m (delP x id) :=
 ⟨h.1,Nat.le_trans (List.length_filter_le _ _) h.2⟩
theorem SmP.set {m:Nat} {x:PT} (h:SmP m x) (t:T) (id:Int) (y:ByteArray) (v:T3):SmP m (setP t x id y v):=by
 unfold setP;split
 ·exact⟨h.1,by show (dU x.2 id _ v).length<=x.1;rw[oU];exact h.2⟩
 exact h
theorem pW {A:List R1} {x:Int} (h:∀ a∈A,a.1≠x):without A x=A:=by
 unfold without;rw[List.filter_eq_self];intro a ha;simpa using h a ha
theorem aDK {t:T} {A:List R1} {x:Int} {y:ByteArray} {v:T3} (h:gQ t A x y v=0):(∃ a∈A,a.1=x)/\∃ j,∃ hj:j<t.cols.length,ixC t.cols y=(j:Int)/\inC t.cols[j].kd v=true:=by
 unfold gQ at h;split at h
 ·rename_i h1;split at h
  ·rename_i h2;split at h
   ·rename_i h3;refine⟨nQ.1 h1,?_⟩;rcases jL t.cols y with e|⟨j,hj,e⟩
    ·rw[e] at h2;exact absurd h2 (by decide)
    rw[e,Int.toNat_natCast,qQq hj] at h3;exact⟨j,hj,e,h3⟩
   exact absurd h (by decide)
  exact absurd h (by decide)
 exact absurd h (by decide)
section
variable {W w w':World} {d b:Nat} {ts us:List T} {st:List DT} {tt:List RT} {O:Nat->Nat} {i:NI} {j m:Nat}
theorem jU {α:Type} {l:List α} {j:Nat} (hj:j<l.length):l.set j l[j]=l:=List.set_getElem_self hj
theorem Dd.insP (h:Dd w d ts st O) (hj:j<ts.length) (hj':j<st.length) {S:Nat->Prop} {v:Value} {vals:List T3} (hv:InV S w v vals) (hS:∀ q,S q->O q=0) (hm:SmP m st[j].2) (hm3:m<=390) (hc:ts[j].cols.length<=1000) (hs:∀ x∈vals,x.2.2.size<=maxLen) (hl:vals.length<=1000000) :
  Calls Tryz.prog 35 #[.pointer (some ⟨st[j].1,0,none⟩),v] w fun e w'=>e=.returned (.tuple #[.int .i64 (insN ts[j] st[j].2 vals),.int .i64 (cU ts[j] vals)])/\∃ O',Dd w' d ts (st.set j (st[j].1,YtgbkmjnnlkgpnaaGreat.insP ts[j] st[j].2 vals)) O'/\Ext w O O'/\Tn (fun q=>O q=j+2) w w':=by
 unfold insN YtgbkmjnnlkgpnaaGreat.insP;by_cases hyes:cU ts[j] vals=0
 ·rw[if_pos hyes,if_pos hyes,hyes];exact h.turn hj hj' (R:=fun e=>e=.returned (.tuple #[.int .i64 (st[j].2.1:Int),.int .i64 0])) (fun lab hT hlO=>oW hT hv (fun q hq=>Classical.byContradiction fun hn=>by have h1:=hlO q hn;rw[hS q hq] at h1;omega) (by have:=hm.1;omega) hc hs hl hyes)
 rw[if_neg hyes,if_neg hyes];obtain⟨lab,hT,_⟩:=h.tab j hj hj';refine (rH hT hv (by have:=hm.1;omega) hc hs hl hyes).mono ?_;rintro e w' ⟨rfl,hb⟩;refine⟨rfl,O,?_,fun q hq=>rfl,Tn.of_below hb⟩;rw[show ((st[j].1,st[j].2):DT)=st[j] from rfl,jU hj'];exact h.later hb
theorem Dd.delP (h:Dd w d ts st O) (hj:j<ts.length) (hj':j<st.length) {id:Int} (hid:F64 id) (hm:SmP m st[j].2) (hm3:m<=390) (hc:ts[j].cols.length<=1000) :
  Calls Tryz.prog 37 #[.pointer (some ⟨st[j].1,0,none⟩),.int .i64 id] w fun e w'=>e=.returned (.bool (bY st[j].2.2 id))/\∃ O',Dd w' d ts (st.set j (st[j].1,YtgbkmjnnlkgpnaaGreat.delP st[j].2 id)) O'/\Ext w O O'/\Tn (fun q=>O q=j+2) w w':=by
 unfold YtgbkmjnnlkgpnaaGreat.delP;cases hh:bY st[j].2.2 id with
 | true =>
  obtain⟨a,ha,rfl⟩:=mN.1 hh;exact h.turn hj hj' (R:=fun e=>e=.returned (.bool true)) (fun lab hT hlO=>oX hT ha (by have:=hm.1;omega) hc)
 | false =>
  obtain⟨lab,hT,_⟩:=h.tab j hj hj';have hno:=pP.1 hh;refine (aBw hT hid hno).mono ?_;rintro e w' ⟨rfl,rfl⟩;refine⟨rfl,O,?_,fun q hq=>rfl,Tn.refl _ _⟩;rw[pW hno,show ((st[j].1,(st[j].2.1,st[j].2.2)):DT)=st[j] from rfl,jU hj'];exact h
theorem Dd.setP (h:Dd w d ts st O) (hj:j<ts.length) (hj':j<st.length) {id:Int} (hid:F64 id) (y:ByteArray) (u:T3) (hs:u.2.2.size<=maxLen) (hm:SmP m st[j].2) (hm3:m<=390) :
  Calls Tryz.prog 39 #[.pointer (some ⟨st[j].1,0,none⟩),.int .i64 id,.string y,.agg #[.int .i64 (u.1),.int .i64 (u.2.1),.string (u.2.2)]] w fun e w'=>e=.returned (.int .i64 (gQ ts[j] st[j].2.2 id y u))/\∃ O',Dd w' d ts (st.set j (st[j].1,YtgbkmjnnlkgpnaaGreat.setP ts[j] st[j].2 id y u)) O'/\Ext w O O'/\Tn (fun q=>O q=j+2) w w':=by
 unfold YtgbkmjnnlkgpnaaGreat.setP;by_cases hyes:gQ ts[j] st[j].2.2 id y u=0
 ·rw[if_pos hyes,hyes];obtain⟨⟨a,ha,rfl⟩,k,hk,hy,hin⟩:=aDK hyes;rw[hy,Int.toNat_natCast];exact h.turn hj hj' (R:=fun e=>e=.returned (.int .i64 0)) (fun lab hT hlO=>oY hT ha (by have:=hm.1;omega) hk hy u.1 u.2.1 u.2.2 hs hin)
 rw[if_neg hyes];obtain⟨lab,hT,_⟩:=h.tab j hj hj';refine (aBx hT hid y u.1 u.2.1 u.2.2 hs hyes).mono ?_;rintro e w' ⟨rfl,hb⟩;refine⟨rfl,O,?_,fun q hq=>rfl,Tn.of_below hb⟩;rw[show ((st[j].1,st[j].2):DT)=st[j] from rfl,jU hj'];exact h.later hb
theorem DbN.insP (h:DbN w b ts tt i O) (hj:j<ts.length) (hj':j<tt.length) {S:Nat->Prop} {v:Value} {vals:List T3} (hv:InV S w v vals) (hS:∀ q,S q->O q=0) (hm:SmP m (dB tt[j])) (hm3:m<=390) (hc:ts[j].cols.length<=1000) (h0:0<ts[j].cols.length) (hs:∀ x∈vals,x.2.2.size<=maxLen) (hl:vals.length<=1000000) :
  Calls Tryz.prog 36 #[.pointer (some ⟨b,0,none⟩),.int .i64 (j:Int),v] w fun e w'=>e=.returned (.tuple #[.int .i64 (insN ts[j] (dB tt[j]) vals),.int .i64 (cU ts[j] vals)])/\∃ tt' O',DbN w' b ts tt' i O'/\tt'.map dB=(tt.map dB).set j (YtgbkmjnnlkgpnaaGreat.insP ts[j] (dB tt[j]) vals)/\Ext w O O'/\Tn (fun q=>O q≠0) w w':=by
 unfold insN YtgbkmjnnlkgpnaaGreat.insP;obtain⟨m1,m2⟩:=hm;have m1:tt[j].nx<=m:=m1;have m2:tt[j].A.length<=tt[j].nx:=m2;by_cases hyes:cU ts[j] vals=0
 ·rw[if_pos hyes,if_pos hyes,hyes];refine (aDb h hj (qQq hj') hv hS hs hc h0 hl (by omega) (by omega) hyes).mono ?_;rintro e w' ⟨rfl,x,O',a1,a2,a3,a4,a5⟩;refine⟨rfl,_,O',a1,?_,a4,a5⟩;rw[List.map_set]
  congr 1
  show (x.nx,x.A)=_;rw[a2,a3]
 rw[if_neg hyes,if_neg hyes];refine (aEY h hj (qQq hj') hv hs hc hl hyes).mono ?_;rintro e w' ⟨rfl,hb⟩;refine⟨rfl,tt,O,h.later hb,?_,fun q hq=>rfl,Tn.of_below hb⟩;rw[show dB tt[j]=(tt.map dB)[j]'(by rw[List.length_map];exact hj') by rw[List.getElem_map],jU]
theorem DbN.delP (h:DbN w b ts tt i O) (hj:j<ts.length) (hj':j<tt.length) (id:Int) (hm:SmP m (dB tt[j])) (hm3:m<=390) :
  Calls Tryz.prog 38 #[.pointer (some ⟨b,0,none⟩),.int .i64 (j:Int),.int .i64 id] w fun e w'=>e=.returned (.bool (bY tt[j].A id))/\∃ tt' O',DbN w' b ts tt' i O'/\tt'.map dB=(tt.map dB).set j (YtgbkmjnnlkgpnaaGreat.delP (dB tt[j]) id)/\Ext w O O'/\Tn (fun q=>O q≠0) w w':=by
 unfold YtgbkmjnnlkgpnaaGreat.delP;obtain⟨m1,m2⟩:=hm;have m1:tt[j].nx<=m:=m1;have m2:tt[j].A.length<=tt[j].nx:=m2;cases hh:bY tt[j].A id with
 | true =>
  obtain⟨a,ha,rfl⟩:=mN.1 hh;obtain⟨k,hk,rfl⟩:=List.getElem_of_mem ha;refine (aDc h hj (qQq hj') (by omega) hk).mono ?_;rintro e w' ⟨rfl,x,O',a1,a2,a3,a4,a5⟩;refine⟨rfl,_,O',a1,?_,a4,a5⟩;rw[List.map_set]
  congr 1
  show (x.nx,x.A)=_;rw[a2,a3]
 | false =>
  have hno:=pP.1 hh;refine (aEZ h hj (qQq hj') (by omega) hno).mono ?_;rintro e w' ⟨rfl,rfl⟩;refine⟨rfl,tt,O,h,?_,fun q hq=>rfl,Tn.refl _ _⟩;show tt.map dB=(tt.map dB).set j (tt[j].nx,without tt[j].A id);rw[pW hno,show (tt[j].nx,tt[j].A)=(tt.map dB)[j]'(by rw[List.length_map];exact hj') by rw[List.getElem_map],jU]
theorem DbN.setP (h:DbN w b ts tt i O) (hj:j<ts.length) (hj':j<tt.length) (id:Int) (y:ByteArray) (u:T3) (hs:u.2.2.size<=maxLen) (h0:0<ts[j].cols.length) (hm:SmP m (dB tt[j])) (hm3:m<=390) :
  Calls Tryz.prog 40 #[.pointer (some ⟨b,0,none⟩),.int .i64 (j:Int),.int .i64 id,.string y,.agg #[.int .i64 (u.1),.int .i64 (u.2.1),.string (u.2.2)]] w fun e w'=>e=.returned (.int .i64 (gQ ts[j] tt[j].A id y u))/\∃ tt' O',DbN w' b ts tt' i O'/\tt'.map dB=(tt.map dB).set j (YtgbkmjnnlkgpnaaGreat.setP ts[j] (dB tt[j]) id y u)/\Ext w O O'/\Tn (fun q=>O q≠0) w w':=by
 unfold YtgbkmjnnlkgpnaaGreat.setP;obtain⟨m1,m2⟩:=hm;have m1:tt[j].nx<=m:=m1;have m2:tt[j].A.length<=tt[j].nx:=m2;refine (aDe h hj (qQq hj') (by omega) h0 id y u.1 u.2.1 u.2.2 hs).mono ?_;rintro e w' ⟨rfl,x,a1,a2,a3,a4⟩;refine⟨rfl,_,O,a1,?_,fun q hq=>rfl,a4⟩;rw[List.map_set]
 congr 1
 show (x.nx,x.A)=_;rw[a2,a3];show (tt[j].nx,if gQ ts[j] tt[j].A id y u=0 then _ else _)=if gQ ts[j] tt[j].A id y u=0 then _ else _
 split <;> rfl
end
section
variable {K K':Nat->Prop} {W W0 w w':World} {d b:Nat} {ts us:List T} {st st':List DT} {tt tt':List RT}
theorem PS.turnD2 (h:PS K W0 w d ts st b us tt) {f:FuncId} {args:Array Value} {R:Ending->Prop} {ts':List T} {Q:List DT->Prop}
  (hc:∀ Od,Dd w d ts st Od->(∀ q,K q->Od q=0)->Calls Tryz.prog f args w fun e w'=>R e/\∃ st' O',Q st'/\Dd w' d ts' st' O'/\Ext w Od O'/\Tn (fun q=>Od q≠0) w w') :
  Calls Tryz.prog f args w fun e w'=>R e/\∃ st',Q st'/\PS K W0 w' d ts' st' b us tt:=by
 obtain⟨Od,Ob,i,h1,h2,h3,h4,h5⟩:=h;refine (hc Od h1 (fun q hq=>(h4 q hq).2.1)).mono ?_;rintro e w' ⟨hR,st',O',hQ,hD,hE,hT⟩;have hlt:∀ q,Ob q≠0->q<w.heap.size:=h2.lt;refine⟨hR,st',hQ,O',Ob,i,hD,h2.tn hT (fun q hq=>h3 q hq),fun q hq=>?_,fun q hq=>?_,h5.trans hT (fun _ _ h=>h) (fun q _ hq hK=>hq (h4 q hK).2.1)⟩
 ·refine Classical.byContradiction fun hn=>?_
  have hl:=hlt q hn;rw[hE q hl] at hq;exact hn (h3 q hq)
 obtain⟨k1,k2,k3⟩:=h4 q hq;exact⟨k1,(hE q (Nat.lt_of_lt_of_le k1 h5.size)).trans k2,k3⟩
theorem PS.turnN2 (h:PS K W0 w d ts st b us tt) {f:FuncId} {args:Array Value} {R:Ending->Prop} {us':List T} {Q:List RT->Prop}
  (hc:∀ i Ob,DbN w b us tt i Ob->(∀ q,K q->Ob q=0)->Calls Tryz.prog f args w fun e w'=>R e/\∃ tt' i' O',Q tt'/\DbN w' b us' tt' i' O'/\Ext w Ob O'/\Tn (fun q=>Ob q≠0) w w') :
  Calls Tryz.prog f args w fun e w'=>R e/\∃ tt',Q tt'/\PS K W0 w' d ts st b us' tt':=by
 obtain⟨Od,Ob,i,h1,h2,h3,h4,h5⟩:=h;refine (hc i Ob h2 (fun q hq=>(h4 q hq).2.2)).mono ?_;rintro e w' ⟨hR,tt',i',O',hQ,hD,hE,hT⟩;refine⟨hR,tt',hQ,Od,O',i',h1.tn hT (fun q hq=>Classical.byContradiction fun hn=>hq (h3 q hn)),hD,fun q hq=>?_,fun q hq=>?_,h5.trans hT (fun _ _ h=>h) (fun q _ hq hK=>hq (h4 q hK).2.2)⟩
 ·rw[hE q (h1.lt q hq)];exact h3 q hq
 obtain⟨k1,k2,k3⟩:=h4 q hq;exact⟨k1,k2,(hE q (Nat.lt_of_lt_of_le k1 h5.size)).trans k3⟩
theorem PS.with (h:PS K W0 w d ts st b us tt) (hb:Below w.heap.size w w'):PS (fun q=>K q∨(w.heap.size<=q/\q<w'.heap.size)) w' w' d ts st b us tt:=by
 obtain⟨Od,Ob,i,h1,h2,h3,h4,h5⟩:=h;refine⟨Od,Ob,i,h1.later hb,h2.later hb,h3,fun q hq=>?_,Tn.refl _ _⟩;rcases hq with hq|⟨q1,q2⟩
 ·obtain⟨k1,k2,k3⟩:=h4 q hq;exact⟨Nat.lt_of_lt_of_le (Nat.lt_of_lt_of_le k1 h5.size) hb.size,k2,k3⟩
 exact⟨q2,Classical.byContradiction fun hn=>by have:=h1.lt q hn;omega,Classical.byContradiction fun hn=>by have:=h2.lt q hn;omega⟩
theorem PS.back (h:PS K W0 w d ts st b us tt) {ts' us':List T} (h2:PS K' w w' d ts' st' b us' tt') (hk:∀ q,K q->K' q):PS K W0 w' d ts' st' b us' tt':=by
 obtain⟨_,_,_,_,_,_,h4,h5⟩:=h;obtain⟨Od,Ob,i,a1,a2,a3,a4,a5⟩:=h2;exact⟨Od,Ob,i,a1,a2,a3,fun q hq=>⟨(h4 q hq).1,(a4 q (hk q hq)).2⟩,h5.trans a5 (fun _ _ h=>h) (fun q _ hn hq=>hn (hk q hq))⟩
theorem PS.bel (h:PS K W0 w d ts st b us tt) (hb:Below W.heap.size W W0) (hk:∀ q,q<W.heap.size->K q):Below W.heap.size W w:=by
 obtain⟨_,_,_,_,_,_,_,h5⟩:=h;exact hb.trans (h5.chg.below hb.size (fun q hq hn=>Classical.byContradiction fun hlt=>hn (hk q (by omega))))
theorem PS.lenD (h:PS K W0 w d ts st b us tt):st.length=ts.length:=by obtain⟨_,_,_,h1,_⟩:=h;exact h1.len
theorem PS.lenN (h:PS K W0 w d ts st b us tt):tt.length=us.length:=by obtain⟨_,_,_,_,h2,_⟩:=h;exact h2.n
end
def PD (K:Nat->Prop) (W0 w:World) (d b:Nat) (ts:List T) (ps:List Nat) (L1 L2:List PT):Prop:=∃ st tt,PS K W0 w d ts st b ts tt/\st.map (·.1)=ps/\st.map (·.2)=L1/\tt.map dB=L2
section
variable {K K':Nat->Prop} {W W0 w w':World} {d b:Nat} {ts:List T} {ps:List Nat} {L1 L2:List PT} {j m:Nat}
theorem PD.len (h:PD K W0 w d b ts ps L1 L2):ps.length=ts.length/\L1.length=ts.length/\L2.length=ts.length:=by
 obtain⟨st,tt,h1,rfl,rfl,rfl⟩:=h;exact⟨by rw[List.length_map];exact h1.lenD,by rw[List.length_map];exact h1.lenD,by rw[List.length_map];exact h1.lenN⟩
theorem PD.later (h:PD K W0 w d b ts ps L1 L2) (hb:Below w.heap.size w w'):PD K W0 w' d b ts ps L1 L2:=by
 obtain⟨st,tt,h1,h2⟩:=h;exact⟨st,tt,h1.later hb,h2⟩
theorem PD.with (h:PD K W0 w d b ts ps L1 L2) (hb:Below w.heap.size w w'):PD (fun q=>K q∨(w.heap.size<=q/\q<w'.heap.size)) w' w' d b ts ps L1 L2:=by
 obtain⟨st,tt,h1,h2⟩:=h;exact⟨st,tt,h1.with hb,h2⟩
theorem PD.back (h:PD K W0 w d b ts ps L1 L2) {L3 L4:List PT} (h2:PD K' w w' d b ts ps L3 L4) (hk:∀ q,K q->K' q):PD K W0 w' d b ts ps L3 L4:=by
 obtain⟨st,tt,h1,_⟩:=h;obtain⟨st',tt',a1,a2⟩:=h2;exact⟨st',tt',h1.back a1 hk,a2⟩
theorem PD.bel (h:PD K W0 w d b ts ps L1 L2) (hb:Below W.heap.size W W0) (hk:∀ q,q<W.heap.size->K q):Below W.heap.size W w:=by
 obtain⟨st,tt,h1,_⟩:=h;exact h1.bel hb hk
theorem PD.still (h:PD K W0 w d b ts ps L1 L2) {q:Nat} (hq:K q):w.heap[q]?=W0.heap[q]?:=by
 obtain⟨st,tt,h1,_⟩:=h;exact h1.still hq
theorem PD.dd (h:PD K W0 w d b ts ps L1 L2):∃ st O,Dd w d ts st O/\st.map (·.1)=ps/\st.map (·.2)=L1:=by
 obtain⟨st,tt,⟨Od,_,_,h1,_⟩,h2,h3,_⟩:=h;exact⟨st,Od,h1,h2,h3⟩
theorem PD.dbn (h:PD K W0 w d b ts ps L1 L2):∃ tt i O,DbN w b ts tt i O/\tt.map dB=L2:=by
 obtain⟨st,tt,⟨_,Ob,i,_,h1,_⟩,_,_,h3⟩:=h;exact⟨tt,i,Ob,h1,h3⟩
theorem PD.table (h:PD K W0 w d b ts ps L1 L2) (hj:j<ts.length) (hx:ts[j].nm.size<=maxLen) (hp:j<ps.length):Calls Tryz.prog 29 #[.pointer (some ⟨d,0,none⟩),.string ts[j].nm] w fun e w'=>e=.returned (.pointer (some ⟨ps[j],0,none⟩))/\w'=w:=by
 obtain⟨st,O,h1,rfl,_⟩:=h.dd;rw[List.getElem_map];exact h1.table hj hx (by rw[h1.len];exact hj)
theorem zG {st:List DT} (hj:j<st.length) (x:PT):((st.set j (st[j].1,x)).map (·.1)=st.map (·.1))/\((st.set j (st[j].1,x)).map (·.2)=(st.map (·.2)).set j x):=by
 rw[List.map_set,List.map_set];refine⟨?_,rfl⟩;have:(st.map (·.1))[j]'(by rw[List.length_map];exact hj)=st[j].1:=(by rw[List.getElem_map]);rw[<- this];exact jU _
theorem PD.insD (h:PD K W0 w d b ts ps L1 L2) (hj:j<ts.length) (hp:j<ps.length) (hL:j<L1.length) {S:Nat->Prop} {v:Value} {vals:List T3} (hv:InV S w v vals) (hS:∀ q,S q->K q) (hm:SmP m L1[j]) (hm3:m<=390) (hc:ts[j].cols.length<=1000) (hs:∀ x∈vals,x.2.2.size<=maxLen) (hl:vals.length<=1000000) :
  Calls Tryz.prog 35 #[.pointer (some ⟨ps[j],0,none⟩),v] w fun e w'=>e=.returned (.tuple #[.int .i64 (insN ts[j] L1[j] vals),.int .i64 (cU ts[j] vals)])/\PD K W0 w' d b ts ps (L1.set j (insP ts[j] L1[j] vals)) L2:=by
 obtain⟨st,tt,h1,rfl,rfl,rfl⟩:=h;have hj':j<st.length:=(by rw[h1.lenD];exact hj);simp only[List.getElem_map] at hm ⊢;refine (h1.turnD2 (ts':=ts) (R:=fun e=>e=.returned (.tuple #[.int .i64 (insN ts[j] st[j].2 vals),.int .i64 (cU ts[j] vals)])) (Q:=fun st'=>st'=st.set j (st[j].1,insP ts[j] st[j].2 vals)) (fun Od hD hK=>?_)).mono ?_
 ·refine (hD.insP hj hj' hv (fun q hq=>hK q (hS q hq)) hm hm3 hc hs hl).mono ?_;rintro e w' ⟨rfl,O',a1,a2,a3⟩;exact⟨rfl,_,O',rfl,a1,a2,a3.mono (fun q _ hq=>by have hq:Od q=j+2:=hq;show Od q≠0;omega)⟩
 rintro e w' ⟨rfl,st',rfl,hP⟩;obtain⟨e1,e2⟩:=zG hj' (insP ts[j] st[j].2 vals);exact⟨rfl,_,tt,hP,e1,e2,rfl⟩
theorem PD.delD (h:PD K W0 w d b ts ps L1 L2) (hj:j<ts.length) (hp:j<ps.length) (hL:j<L1.length) {id:Int} (hid:F64 id) (hm:SmP m L1[j]) (hm3:m<=390) (hc:ts[j].cols.length<=1000) :
  Calls Tryz.prog 37 #[.pointer (some ⟨ps[j],0,none⟩),.int .i64 id] w fun e w'=>e=.returned (.bool (bY L1[j].2 id))/\PD K W0 w' d b ts ps (L1.set j (delP L1[j] id)) L2:=by
 obtain⟨st,tt,h1,rfl,rfl,rfl⟩:=h;have hj':j<st.length:=(by rw[h1.lenD];exact hj);simp only[List.getElem_map] at hm ⊢;refine (h1.turnD2 (ts':=ts) (R:=fun e=>e=.returned (.bool (bY st[j].2.2 id))) (Q:=fun st'=>st'=st.set j (st[j].1,delP st[j].2 id)) (fun Od hD hK=>?_)).mono ?_
 ·refine (hD.delP hj hj' hid hm hm3 hc).mono ?_;rintro e w' ⟨rfl,O',a1,a2,a3⟩;exact⟨rfl,_,O',rfl,a1,a2,a3.mono (fun q _ hq=>by have hq:Od q=j+2:=hq;show Od q≠0;omega)⟩
 rintro e w' ⟨rfl,st',rfl,hP⟩;obtain⟨e1,e2⟩:=zG hj' (delP st[j].2 id);exact⟨rfl,_,tt,hP,e1,e2,rfl⟩
theorem PD.setD (h:PD K W0 w d b ts ps L1 L2) (hj:j<ts.length) (hp:j<ps.length) (hL:j<L1.length) {id:Int} (hid:F64 id) (y:ByteArray) (u:T3) (hs:u.2.2.size<=maxLen) (hm:SmP m L1[j]) (hm3:m<=390) :
  Calls Tryz.prog 39 #[.pointer (some ⟨ps[j],0,none⟩),.int .i64 id,.string y,.agg #[.int .i64 (u.1),.int .i64 (u.2.1),.string (u.2.2)]] w fun e w'=>e=.returned (.int .i64 (gQ ts[j] L1[j].2 id y u))/\PD K W0 w' d b ts ps (L1.set j (setP ts[j] L1[j] id y u)) L2:=by
 obtain⟨st,tt,h1,rfl,rfl,rfl⟩:=h;have hj':j<st.length:=(by rw[h1.lenD];exact hj);simp only[List.getElem_map] at hm ⊢;refine (h1.turnD2 (ts':=ts) (R:=fun e=>e=.returned (.int .i64 (gQ ts[j] st[j].2.2 id y u))) (Q:=fun st'=>st'=st.set j (st[j].1,setP ts[j] st[j].2 id y u)) (fun Od hD hK=>?_)).mono ?_
 ·refine (hD.setP hj hj' hid y u hs hm hm3).mono ?_;rintro e w' ⟨rfl,O',a1,a2,a3⟩;exact⟨rfl,_,O',rfl,a1,a2,a3.mono (fun q _ hq=>by have hq:Od q=j+2:=hq;show Od q≠0;omega)⟩
 rintro e w' ⟨rfl,st',rfl,hP⟩;obtain⟨e1,e2⟩:=zG hj' (setP ts[j] st[j].2 id y u);exact⟨rfl,_,tt,hP,e1,e2,rfl⟩
theorem PD.insN (h:PD K W0 w d b ts ps L1 L2) (hj:j<ts.length) (hL:j<L2.length) {S:Nat->Prop} {v:Value} {vals:List T3} (hv:InV S w v vals) (hS:∀ q,S q->K q) (hm:SmP m L2[j]) (hm3:m<=390) (hc:ts[j].cols.length<=1000) (h0:0<ts[j].cols.length) (hs:∀ x∈vals,x.2.2.size<=maxLen) (hl:vals.length<=1000000) :
  Calls Tryz.prog 36 #[.pointer (some ⟨b,0,none⟩),.int .i64 (j:Int),v] w fun e w'=>e=.returned (.tuple #[.int .i64 (YtgbkmjnnlkgpnaaGreat.insN ts[j] L2[j] vals),.int .i64 (cU ts[j] vals)])/\PD K W0 w' d b ts ps L1 (L2.set j (insP ts[j] L2[j] vals)):=by
 obtain⟨st,tt,h1,rfl,rfl,rfl⟩:=h;have hj':j<tt.length:=(by rw[h1.lenN];exact hj);simp only[List.getElem_map] at hm ⊢;refine (h1.turnN2 (us':=ts) (R:=fun e=>e=.returned (.tuple #[.int .i64 (YtgbkmjnnlkgpnaaGreat.insN ts[j] (dB tt[j]) vals),.int .i64 (cU ts[j] vals)])) (Q:=fun tt'=>tt'.map dB=(tt.map dB).set j (insP ts[j] (dB tt[j]) vals)) (fun i Ob hD hK=>?_)).mono ?_
 ·refine (hD.insP hj hj' hv (fun q hq=>hK q (hS q hq)) hm hm3 hc h0 hs hl).mono ?_;rintro e w' ⟨rfl,tt',O',a1,a2,a3,a4⟩;exact⟨rfl,tt',i,O',a2,a1,a3,a4⟩
 rintro e w' ⟨rfl,tt',hQ,hP⟩;exact⟨rfl,st,tt',hP,rfl,rfl,hQ⟩
theorem PD.delN (h:PD K W0 w d b ts ps L1 L2) (hj:j<ts.length) (hL:j<L2.length) (id:Int) (hm:SmP m L2[j]) (hm3:m<=390) :
  Calls Tryz.prog 38 #[.pointer (some ⟨b,0,none⟩),.int .i64 (j:Int),.int .i64 id] w fun e w'=>e=.returned (.bool (bY L2[j].2 id))/\PD K W0 w' d b ts ps L1 (L2.set j (delP L2[j] id)):=by
 obtain⟨st,tt,h1,rfl,rfl,rfl⟩:=h;have hj':j<tt.length:=(by rw[h1.lenN];exact hj);simp only[List.getElem_map] at hm ⊢;refine (h1.turnN2 (us':=ts) (R:=fun e=>e=.returned (.bool (bY (dB tt[j]).2 id))) (Q:=fun tt'=>tt'.map dB=(tt.map dB).set j (delP (dB tt[j]) id)) (fun i Ob hD hK=>?_)).mono ?_
 ·refine (hD.delP hj hj' id hm hm3).mono ?_;rintro e w' ⟨rfl,tt',O',a1,a2,a3,a4⟩;exact⟨rfl,tt',i,O',a2,a1,a3,a4⟩
 rintro e w' ⟨rfl,tt',hQ,hP⟩;exact⟨rfl,st,tt',hP,rfl,rfl,hQ⟩
theorem PD.setN (h:PD K W0 w d b ts ps L1 L2) (hj:j<ts.length) (hL:j<L2.length) (id:Int) (y:ByteArray) (u:T3) (hs:u.2.2.size<=maxLen) (h0:0<ts[j].cols.length) (hm:SmP m L2[j]) (hm3:m<=390) :
  Calls Tryz.prog 40 #[.pointer (some ⟨b,0,none⟩),.int .i64 (j:Int),.int .i64 id,.string y,.agg #[.int .i64 (u.1),.int .i64 (u.2.1),.string (u.2.2)]] w fun e w'=>e=.returned (.int .i64 (gQ ts[j] L2[j].2 id y u))/\PD K W0 w' d b ts ps L1 (L2.set j (setP ts[j] L2[j] id y u)):=by
 obtain⟨st,tt,h1,rfl,rfl,rfl⟩:=h;have hj':j<tt.length:=(by rw[h1.lenN];exact hj);simp only[List.getElem_map] at hm ⊢;refine (h1.turnN2 (us':=ts) (R:=fun e=>e=.returned (.int .i64 (gQ ts[j] (dB tt[j]).2 id y u))) (Q:=fun tt'=>tt'.map dB=(tt.map dB).set j (setP ts[j] (dB tt[j]) id y u)) (fun i Ob hD hK=>?_)).mono ?_
 ·refine (hD.setP hj hj' id y u hs h0 hm hm3).mono ?_;rintro e w' ⟨rfl,tt',O',a1,a2,a3,a4⟩;exact⟨rfl,tt',i,O',a2,a1,a3,a4⟩
 rintro e w' ⟨rfl,tt',hQ,hP⟩;exact⟨rfl,st,tt',hP,rfl,rfl,hQ⟩
end
theorem lV (W:World):Calls Tryz.prog 12 #[] W fun e w'=>∃ d b ps,e=.returned (.tuple #[(Value.pointer (some ⟨d,0,none⟩)),(Value.pointer (some ⟨b,0,none⟩))])/\PD (fun q=>q<W.heap.size) W w' d b (pre 4) ps (List.replicate 4 (0,[])) (List.replicate 4 (0,[])):=by
 refine (zE W).mono ?_;rintro e w' ⟨rfl,K,w3,st,hb,hK,⟨Od,Ob,i,h1,h2,h3,h4,h5⟩,hst⟩;refine⟨_,_,st.map (·.1),rfl,st,List.replicate 4 rt0,⟨Od,Ob,i,h1,h2,h3,fun q hq=>⟨hq,(h4 q (hK q hq)).2⟩,(Tn.of_below (S:=fun _=>False) hb).trans h5 (fun _ _ h=>h.elim) (fun q _ hn hq=>hn (hK q hq))⟩,rfl,hst,rfl⟩
end Go.Proofs.YtgbkmjnnlkgpnaaGreat
namespace Go.Proofs.YtgbkmjnnlkgpnaaGreat
open Go Go.RowKit Go.Proofs Co Co.S Par
theorem InV.lit {w:World} {g:Nat} {l:List T3} {cs:Array Value} (h:w.heap[g]?=some (.cells cs 42)) (hcs:cs.toList=cells3 l) (hl:l.length<=maxLen):InV (fun q=>q=g) w (.slice (some ⟨g,0,none⟩) l.length l.length) l:=by
 refine⟨_,_,rfl,Nat.le_refl _,hl,fun _=>⟨g,0,rfl,lt_of_heap h,rfl,fun j u hj=>?_⟩⟩
 have:=aA h j
 rw[Nat.zero_add,this,<- hj,<- hcs,Array.getElem?_toList]
theorem Wd.lits {w:World} {g:Nat} {l:List ByteArray} {cs:Array Value} (h:w.heap[g]?=some (.cells cs 9)) (hcs:cs.toList=l.map Value.string) (hl:l.length<=maxLen):Wd w (.slice (some ⟨g,0,none⟩) l.length l.length) l:=by
 refine⟨_,_,rfl,Nat.le_refl _,hl,fun a h=>(by cases h;rfl),fun _=>⟨g,0,cs,(0,0),rfl,h,fun j hj=>?_⟩⟩;rw[Nat.zero_add,<- Array.getElem?_toList,hcs,List.getElem?_map,qQq hj];rfl
structure JI (K:Nat->Prop) (W0 wS:World) (d b:Nat) (ts:List T) (ps:List Nat) (L1 L2:List PT) (E:Nat->Value) (iS iI:Nat) (vals:List T3) (l:Nat->Bool) (vs:Nat->Value) (w:World):Prop where
 ev:∀ j,j≠iS->l j=true->vs j=E j
 pre:l iI=false->Below wS.heap.size wS w
 row:l iI=false->l iS=true->∃ g,vs iS=.slice (some ⟨g,0,none⟩) vals.length vals.length/\w.heap[g]?=some (.cells (cells3 vals).toArray 42)/\wS.heap.size<=g
 post:l iI=true->PD K W0 w d b ts ps L1 L2
section
variable {K:Nat->Prop} {W0 wS w w':World} {d b:Nat} {ts:List T} {ps:List Nat} {L1 L2:List PT} {E:Nat->Value} {iS iI:Nat} {vals:List T3} {l:Nat->Bool} {vs:Nat->Value}
theorem JI.up (h:JI K W0 wS d b ts ps L1 L2 E iS iI vals l vs w) (i:Nat) (h1:i≠iS) (h2:i≠iI):JI K W0 wS d b ts ps L1 L2 E iS iI vals (upB l i) (upV vs i (E i)) w:=by
 refine⟨fun j hj hl=>?_,fun hl=>h.pre ?_,fun hl hl2=>?_,fun hl=>h.post ?_⟩
 ·by_cases e:j=i
  ·subst e;rw[bB]
  rw[aH e];rw[aG e] at hl;exact h.ev j hj hl
 ·rwa [aG (fun e=>h2 e.symm)] at hl
 ·rw[aH (fun e=>h1 e.symm)];exact h.row (by rwa [aG (fun e=>h2 e.symm)] at hl) (by rwa [aG (fun e=>h1 e.symm)] at hl2)
 rwa [aG (fun e=>h2 e.symm)] at hl
theorem JI.new (h:JI K W0 wS d b ts ps L1 L2 E iS iI vals l vs w) (hI:l iI=false) (hne:iS≠iI) {cs:Array Value} (hcs:cs=(cells3 vals).toArray) {n:Nat} (hn:n=vals.length):JI K W0 wS d b ts ps L1 L2 E iS iI vals (upB l iS) (upV vs iS (.slice (some ⟨w.heap.size,0,none⟩) n n)) (w.alloc (.cells cs 42)):=by
 subst hcs hn;refine⟨fun j hj hl=>?_,fun _=>aB (h.pre hI) (aC w _),fun _ _=>⟨w.heap.size,bB,qOq w _,(h.pre hI).size⟩,fun hl=>?_⟩
 ·rw[aH hj];rw[aG hj] at hl;exact h.ev j hj hl
 rw[aG (fun e=>hne e.symm),hI] at hl;cases hl
theorem JI.put (h:JI K W0 wS d b ts ps L1 L2 E iS iI vals l vs w) (hne:iI≠iS) (hP:PD K W0 w' d b ts ps L1 L2):JI K W0 wS d b ts ps L1 L2 E iS iI vals (upB l iI) (upV vs iI (E iI)) w':=by
 refine⟨fun j hj hl=>?_,fun hl=>?_,fun hl=>?_,fun _=>hP⟩
 ·by_cases e:j=iI
  ·subst e;rw[bB]
  rw[aH e];rw[aG e] at hl;exact h.ev j hj hl
 ·rw[dJ] at hl;cases hl
 rw[dJ] at hl;cases hl
theorem rR {L0:List PT} {j m:Nat} (h:PD K W0 wS d b ts ps L0 L2) (hb:Below wS.heap.size wS w) (hj:j<ts.length) (hp:j<ps.length) (hL:j<L0.length) {g:Nat} (hg:w.heap[g]?=some (.cells (cells3 vals).toArray 42)) (hgS:wS.heap.size<=g) (hm:SmP m L0[j]) (hm3:m<=390) (hc:ts[j].cols.length<=1000) (hs:∀ x∈vals,x.2.2.size<=maxLen) (hl:vals.length<=1000) :
  Calls Tryz.prog 35 #[.pointer (some ⟨ps[j],0,none⟩),.slice (some ⟨g,0,none⟩) vals.length vals.length] w fun e w'=>e=.returned (.tuple #[.int .i64 (insN ts[j] L0[j] vals),.int .i64 (cU ts[j] vals)])/\PD K W0 w' d b ts ps (L0.set j (insP ts[j] L0[j] vals)) L2:=by
 have hw:=h.with hb;refine (hw.insD hj hp hL (InV.lit hg rfl (by unfold maxLen;omega)) (fun q (hq:q=g)=>.inr ⟨by omega,by rw[hq];exact lt_of_heap hg⟩) hm hm3 hc hs (by omega)).mono ?_;rintro e w' ⟨rfl,hP⟩;exact⟨rfl,(h.later hb).back hP (fun q hq=>.inl hq)⟩
end
section
variable {K:Nat->Prop} {W0 w:World} {d b:Nat} {ts:List T} {ps:List Nat} {L1 L2:List PT}
abbrev iP (L:List PT):List (List R1):=L.map (·.2)
theorem pX {st:List DT} {L:List PT} (h:st.map (·.2)=L):rowsOf st=iP L:=by
 subst h;show st.map _=(st.map _).map _;rw[List.map_map];rfl
theorem PD.value (h:PD K W0 w d b ts ps L1 L2) (hi:InvQ ts) (hfew:bU ts) (hsz:Short ts) {v:Value} (x:ByteArray) {id:Int} {p:List ByteArray} (hid:F64 id) (hp:Wd w v p) :
  Calls Tryz.prog 87 #[.pointer (some ⟨d,0,none⟩),.string x,.int .i64 id,v] w fun e w'=>e=.returned (.tuple #[(Value.agg #[Value.int .i64 ((cH ts (iP L1) x id p).1.1),Value.int .i64 ((cH ts (iP L1) x id p).1.2.1),Value.string ((cH ts (iP L1) x id p).1.2.2)]),.bool (cH ts (iP L1) x id p).2])/\Below w.heap.size w w':=by
 obtain⟨st,O,hD,_,hL⟩:=h.dd;rw[<- pX hL];exact zA hD hi hfew hsz x hid hp
theorem PD.bykey (h:PD K W0 w d b ts ps L1 L2) (hi:InvQ ts) (hfew:bU ts) (hsz:Short ts) (x:ByteArray) (u:T3) :
  Calls Tryz.prog 88 #[.pointer (some ⟨d,0,none⟩),.string x,.agg #[.int .i64 (u.1),.int .i64 (u.2.1),.string (u.2.2)]] w fun e w'=>e=.returned (.tuple #[.int .i64 ((aX ts (iP L1) x u).getD 0),.bool (aX ts (iP L1) x u).isSome])/\Below w.heap.size w w':=by
 obtain⟨st,O,hD,_,hL⟩:=h.dd;rw[<- pX hL];exact kY hD hi hfew hsz x u
end
theorem aR:Short (pre 4):=by
 intro t ht;have h:∀ t∈pre 4,t.nm.size<=12:=(by decide);exact Nat.le_trans (h t ht) (by unfold maxLen;omega)
theorem aFw:∀ t∈pre 4,∀ c∈t.cols,c.kd=1∨c.kd=2:=by decide
theorem kZ:∀ t∈pre 4,0<t.cols.length/\t.cols.length<=4:=by decide
