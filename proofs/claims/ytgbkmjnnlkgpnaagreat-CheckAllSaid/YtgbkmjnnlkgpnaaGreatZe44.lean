import Derived.Test.YtgbkmjnnlkgpnaaGreatZe43
import Derived.Test.YtgbkmjnnlkgpnaaGreatZe36
import Derived.Test.YtgbkmjnnlkgpnaaGreatZe22
import Derived.Test.YtgbkmjnnlkgpnaaGreatZe35
import Derived.Test.YtgbkmjnnlkgpnaaGreatZe2
import Derived.Test.YtgbkmjnnlkgpnaaGreatZe39
set_option maxHeartbeats 8000000
set_option maxRecDepth 100000
namespace Go.Proofs.YtgbkmjnnlkgpnaaGreat
open Go Go.RowKit Go.Proofs Co Co.S
def iQ (ts:List T) (L:List PT) (o:OpX):List PT :=
 match ts[(ixT ts o.tbl).toNat]?,L[(ixT ts o.tbl).toNat]? with
 | some t,some x=>if ixT ts o.tbl<0 then L else if o.dO=1 then L.set (ixT ts o.tbl).toNat (insP t x o.vals) else if o.dO=2 then L.set (ixT ts o.tbl).toNat (delP x o.id) else if o.vals.length=1 then L.set (ixT ts o.tbl).toNat (setP t x o.id o.col (o.vals.getD 0 z3)) else L
 | _,_=>L
def bR (ts:List T) (L:List PT) (l:List OpX):List PT:=l.foldl (iQ ts) L
structure OpOk (o:OpX):Prop where
 id:F64 o.id
 tbl:o.tbl.size<=maxLen
 col:o.col.size<=maxLen
 vals:∀ x∈o.vals,x.2.2.size<=maxLen
 few:o.vals.length<=1000
section
variable {ts:List T} {L:List PT} {o:OpX} {j m:Nat}
theorem aBV (h:ixT ts o.tbl<0):iQ ts L o=L:=by
 unfold iQ;split
 ·rw[if_pos h]
 rfl
theorem pY (h:ixT ts o.tbl=(j:Int)) (hj:j<ts.length) (hL:j<L.length):iQ ts L o=if o.dO=1 then L.set j (insP ts[j] L[j] o.vals) else if o.dO=2 then L.set j (delP L[j] o.id) else if o.vals.length=1 then L.set j (setP ts[j] L[j] o.id o.col (o.vals.getD 0 z3)) else L:=by
 unfold iQ;rw[h];simp only[Int.toNat_natCast,qQq hj,qQq hL];rw[if_neg (by omega)]
theorem SmP.mono {m m':Nat} {x:PT} (h:SmP m x) (hm:m<=m'):SmP m' x:=⟨Nat.le_trans h.1 hm,h.2⟩
theorem zH (h:∀ x∈L,SmP m x) {y:PT} (hy:SmP (m+1) y):∀ x∈L.set j y,SmP (m+1) x:=fun x hx=>by
 rcases List.mem_or_eq_of_mem_set hx with h1|rfl
 ·exact (h x h1).mono (by omega)
 ·exact hy
theorem aDL (h:∀ x∈L,SmP m x):∀ x∈iQ ts L o,SmP (m+1) x:=by
 unfold iQ;split
 ·rename_i t x h1 h2;have hx:=h x (List.mem_of_getElem? h2);split
  ·exact fun x hx=>(h x hx).mono (by omega)
  split
  ·exact zH h (hx.ins t o.vals)
  split
  ·exact zH h ((hx.del o.id).mono (by omega))
  split
  ·exact zH h ((hx.set t o.id o.col _).mono (by omega))
  exact fun x hx=>(h x hx).mono (by omega)
 exact fun x hx=>(h x hx).mono (by omega)
theorem fM {l:List OpX} (h:∀ x∈L,SmP m x):∀ x∈bR ts L l,SmP (m+l.length) x:=by
 induction l generalizing L m with
 | nil=>exact h
 | cons o l ih =>
  have:=ih (aDL (ts:=ts) (o:=o) h)
  intro x hx
  have:=this x hx
  rw[List.length_cons];exact this.mono (by omega)
theorem pZ {l:List OpX} (hj:j<l.length):bR ts L (l.take (j+1))=iQ ts (bR ts L (l.take j)) l[j]:=by
 unfold bR;rw[List.take_succ_eq_append_getElem hj,List.foldl_append];rfl
end
theorem flat5 {α:Type} (f:α->List Value) (hf:∀ x,(f x).length=5):∀ (l:List α) (j k:Nat) (hj:j<l.length),k<5->(l.flatMap f)[j*5+k]?=(f l[j])[k]?
 | [],j,_,hj,_=>absurd hj (Nat.not_lt_zero j)
 | x::l,0,k,_,hk=>by
  rw[List.flatMap_cons,List.getElem?_append_left (by rw[hf];omega),Nat.zero_mul,Nat.zero_add];rfl
 | x::l,j+1,k,hj,hk=>by
  have hj':j<l.length:=(by simpa using hj);rw[List.flatMap_cons,List.getElem?_append_right (by rw[hf];omega),hf,show (j+1)*5+k-5=j*5+k by omega];exact flat5 f hf l j k hj' hk
theorem aBW {L:List OpX} {sv:List Value} (h:sv.length=L.length) {j:Nat} (hj:j<L.length) {v:Value} (hv:sv[j]?=some v) :
  (cO L sv)[j*5]?=some (.int .i64 L[j].dO)/\(cO L sv)[j*5+1]?=some (.string L[j].tbl)/\(cO L sv)[j*5+2]?=some (.int .i64 L[j].id)/\(cO L sv)[j*5+3]?=some (.string L[j].col)/\(cO L sv)[j*5+4]?=some v:=by
 have hz:j<(L.zip sv).length:=by rw[List.length_zip,h,Nat.min_self];exact hj
 have e:(L.zip sv)[j]=(L[j],v):=by
  rw[List.getElem_zip]
  have:sv[j]'(by rw[h];exact hj)=v:=by
   have:=(List.getElem?_eq_some_iff.1 hv).2
   exact this
  rw[this]
 have f:=(fun k hk=>flat5 (fun p:OpX×Value=>opC p.1 p.2) (fun _=>rfl) (L.zip sv) j k hz hk);simp only[e] at f;exact⟨f 0 (by decide),f 1 (by decide),f 2 (by decide),f 3 (by decide),f 4 (by decide)⟩
theorem wI {K:Nat->Prop} {W0:World} {base:Nat} {tv:Value} {L:List OpX} (ho:OpsO W0 base tv L) (hK:∀ q,base<=q->q<W0.heap.size->K q) {j:Nat} (hj:j<L.length) :
  ∃ g cap vv,tv=.slice (some ⟨g,0,none⟩) L.length cap/\∀ w:World,(∀ q,K q->w.heap[q]?=W0.heap[q]?) ->
   (w.cell? ⟨g,j*5,none⟩=some (.int .i64 L[j].dO)/\w.cell? ⟨g,j*5+1,none⟩=some (.string L[j].tbl)/\w.cell? ⟨g,j*5+2,none⟩=some (.int .i64 L[j].id)/\w.cell? ⟨g,j*5+3,none⟩=some (.string L[j].col)/\w.cell? ⟨g,j*5+4,none⟩=some vv/\g<w.heap.size) /\
   HRow w base 42 3 vv L[j].vals.length (cells3 L[j].vals)/\InV K w vv L[j].vals:=by
 obtain⟨sv,h1,h2,h3⟩:=ho;obtain⟨g,cap,rfl,_,_⟩:=HRow.slice h2 (by omega);obtain⟨v,hv,hr⟩:=h3 j hj;obtain⟨c0,c1,c2,c3,c4⟩:=aBW h1 hj hv;refine⟨g,cap,v,rfl,fun w hw=>?_⟩
 have hkq:∀ {e size n:Nat} {u:Value} {xs:List Value},HRow W0 base e size u n xs->HRow w base e size u n xs:=fun hr=>hr.of (fun q hq=>by
  obtain⟨q1,q2⟩:=HRow.lt hr q hq;exact hw q (hK q q1 q2))
 have h2':=hkq h2;have hr':=hkq hr;refine⟨⟨h2'.cell c0,h2'.cell c1,h2'.cell c2,h2'.cell c3,h2'.cell c4,(HRow.lt h2' g rfl).2⟩,hr',(InV.of_row hr' rfl).mono (fun q _ hq=>?_)⟩;obtain⟨q1,q2⟩:=HRow.lt hr q hq;exact hK q q1 q2
end Go.Proofs.YtgbkmjnnlkgpnaaGreat
namespace Go.Proofs.YtgbkmjnnlkgpnaaGreat
open Go Go.RowKit Go.Proofs Co Co.S Par
structure JR (W:World) (A:List R1) (E:Nat->Value) (l:Nat->Bool) (vs:Nat->Value) (w:World):Prop where
 bel:Below W.heap.size W w
 ev:∀ j,j≠4->l j=true->vs j=E j
 v4:l 4=true->∃ p n c,vs 4=.agg #[.slice p n c]/\Vm w (.slice p n c) (qQ A)
section
variable {W w w':World} {A:List R1} {E:Nat->Value} {l:Nat->Bool} {vs:Nat->Value}
theorem aBX {v:Value} (hv:Vm w v (qQ A)) (hs:A.Pairwise (fun a b=>a.1<b.1)):Calls Tryz.prog 73 #[.agg #[v]] w fun e w2=>e=.returned (.int .i64 (A.length:Int))/\Below w.heap.size w w2:=by
 have hc:=aCL hv;obtain⟨l,_,k1,k2⟩:=hv;rw[<- k2.els k1,lQ k1 k2 hs,List.length_map] at hc;exact hc
end
end Go.Proofs.YtgbkmjnnlkgpnaaGreat
namespace Go.Proofs.YtgbkmjnnlkgpnaaGreat
open Go Go.RowKit Go.Proofs Co Co.S
abbrev iR (tt:List RT):List (List R1):=tt.map (·.A)
section
variable {W:World} {b:Nat} {us:List T} {tt:List RT} {i:NI} {O:Nat->Nat}
theorem zI (h:DbN W b us tt i O) (hi:InvQ us) (hc1:∀ t∈us,t.cols.length<=1000) (hAl:∀ y∈tt,y.A.length<=100000) (x:ByteArray) (u:T3) :
  Calls Tryz.prog 84 #[.pointer (some ⟨b,0,none⟩),.string x,.agg #[.int .i64 (u.1),.int .i64 (u.2.1),.string (u.2.2)]] W fun e w'=>e=.returned (.tuple #[.int .i64 ((aX us (iR tt) x u).getD 0),.bool (aX us (iR tt) x u).isSome])/\Below W.heap.size W w':=by
 rcases dZ us x with ⟨h1,_,h3⟩ | ⟨j,hj,h1,_,h3⟩
 ·rw[pQ (by omega)];exact mK h x u.1 u.2.1 u.2.2 (.inl (by omega))
 have hj':j<tt.length:=(by rw[h.n];exact hj);have hjr:j<(iR tt).length:=(by rw[List.length_map];exact hj');rw[rP hj hjr h1];by_cases hk:us[j].key=e0
 ·rw[if_pos hk];exact mK h x u.1 u.2.1 u.2.2 (.inr ⟨j,hj,h1,.inl hk⟩)
 rw[if_neg hk];by_cases hu:u.1=0
 ·rw[if_pos hu];exact mK h x u.1 u.2.1 u.2.2 (.inr ⟨j,hj,h1,.inr hu⟩)
 rw[if_neg hu];have hg:=hi.key _ (List.getElem_mem hj)
 have hc:bQ us[j].cols us[j].key=true:=by
  unfold bD at hg;rw[Bool.or_eq_true] at hg;rcases hg with hg|hg
  ·rw[gM] at hg;exact absurd hg hk
  exact hg
 rcases eA us[j].cols us[j].key with ⟨_,h5,_⟩ | ⟨k,hk',h5,_⟩
 ·rw[h5] at hc;cases hc
 rw[h5]
 have:=yS h hj (qQq hj') h1 hk hk' h5 u.1 u.2.1 u.2.2 hu (hAl _ (List.getElem_mem hj')) (hc1 _ (List.getElem_mem hj))
 simpa only[Int.toNat_natCast,iR,List.getElem_map] using this
structure NVn where
 t:Nat
 k:Nat
 c:Nat
 gs:Nat
 cs:Nat
 go:Nat
 co:Nat
 gr:Nat
 na:Nat
 cr:Nat
 gv:Nat
 cv:Nat
 nc:Nat
 bc:Nat
 oc:Nat
 kc:Nat
 pd:Option Addr
 nd:Nat
 kd:Nat
 nm:ByteArray
 key:ByteArray
structure NV (w:World) (b mt:Nat) (id:Int) (y:ByteArray) (u:T3) (tg:ByteArray) (x:NVn):Prop where
 b0:w.cell? ⟨b,0,none⟩=some (.slice (some ⟨x.gs,0,none⟩) mt x.cs)
 b1:w.cell? ⟨b,1,none⟩=some (.slice (some ⟨x.go,0,none⟩) mt x.co)
 s0:w.cell? ⟨x.gs,x.t*4,none⟩=some (.string x.nm)
 s1:w.cell? ⟨x.gs,x.t*4+1,none⟩=some (.slice (some ⟨x.bc,x.oc,none⟩) x.nc x.kc)
 s2:w.cell? ⟨x.gs,x.t*4+2,none⟩=some (.string x.key)
 s3:w.cell? ⟨x.gs,x.t*4+3,none⟩=some (.slice x.pd x.nd x.kd)
 o0:w.cell? ⟨x.go,x.t,none⟩=some (.slice (some ⟨x.gr,0,none⟩) x.na x.cr)
 r0:w.cell? ⟨x.gr,x.k*2+1,none⟩=some (.slice (some ⟨x.gv,0,none⟩) x.nc x.cv)
 v0:w.cell? ⟨x.gv,x.c*3,none⟩=some (.int .i64 u.1)
 v1:w.cell? ⟨x.gv,x.c*3+1,none⟩=some (.int .i64 u.2.1)
 v2:w.cell? ⟨x.gv,x.c*3+2,none⟩=some (.string u.2.2)
 tg:w.cell? ⟨x.bc,x.oc+x.c*4+3,none⟩=some (.string tg)
 bl:b<w.heap.size
 sl:x.gs<w.heap.size
 ol:x.go<w.heap.size
 rl:x.gr<w.heap.size
 vl:x.gv<w.heap.size
 cl:x.bc<w.heap.size
 atc:Calls Tryz.prog 66 #[.pointer (some ⟨b,0,none⟩),.int .i64 (x.t:Int),.int .i64 id] w fun e w'=>e=.returned (.int .i64 (x.k:Int))/\w'=w
 col:Calls Tryz.prog 69 #[.agg #[.string x.nm,.slice (some ⟨x.bc,x.oc,none⟩) x.nc x.kc,.string x.key,.slice x.pd x.nd x.kd],.string y] w fun e w'=>e=.returned (.int .i64 (x.c:Int))/\Below w.heap.size w w'
end
theorem wJ {K:Nat->Prop} {W0 w0:World} {d b:Nat} {ts:List T} {ps:List Nat} {L1 L2:List PT} {p:Option Addr} {cap:Nat} {ops:List OpX} {m:Nat} (h:PD K W0 w0 d b ts ps L1 L2) (hread:∀ j (hj:j<ops.length),∃ g o vv,p=some ⟨g,o,none⟩/\∀ w:World,(∀ q,K q->w.heap[q]?=W0.heap[q]?)->(w.cell? ⟨g,o+j*5,none⟩=some (.int .i64 ops[j].dO)/\w.cell? ⟨g,o+j*5+1,none⟩=some (.string ops[j].tbl)/\w.cell? ⟨g,o+j*5+2,none⟩=some (.int .i64 ops[j].id)/\w.cell? ⟨g,o+j*5+3,none⟩=some (.string ops[j].col)/\w.cell? ⟨g,o+j*5+4,none⟩=some vv/\g<w.heap.size)/\InV K w vv ops[j].vals) (hi:InvQ ts) (hfew:bU ts) (hsz:Short ts) (hcs:∀ t∈ts,0<t.cols.length/\t.cols.length<=1000)
  (h1:∀ x∈L1,SmP m x) (h2:∀ x∈L2,SmP m x) (hm:m+ops.length<=390) (hops:∀ o∈ops,OpOk o) :
  Calls Tryz.prog 13 #[.pointer (some ⟨d,0,none⟩),.pointer (some ⟨b,0,none⟩),.slice p ops.length cap] w0 fun e w'=>e=.returned (.tuple #[])/\PD K W0 w' d b ts ps (bR ts L1 ops) (bR ts L2 ops):=by
 obtain⟨n,hn⟩:∃ n,ops.length=n:=⟨_,rfl⟩;have HREAD:Hid (∀ j (hj:j<ops.length),_):=qAq (fun j hj=>hread j hj);have HF:=qAq (qBq hi (qBq hfew (qBq hsz (qBq hcs (qBq h1 (qBq h2 (qBq hm (qBq hops hn))))))));have HP:=qAq h;rw[hn];clear hread hi hfew hsz hcs h1 h2 hm hops hn h;go_enter Tryz.func13,Tryz.ntmps13;have hn3:(n:Int)<=390:=(by have h1:=HF.out.2.2.2.2.2.2.1;have h2:=HF.out.2.2.2.2.2.2.2.2;omega);go_wp2_with fail;go_loopg [6] (n+1) (fun gh jv w=>∃ (j:Nat),jv=.int .i64 (j:Int)/\j<=n/\n+1<=j+gh/\PD K W0 w d b ts ps (bR ts L1 (ops.take j)) (bR ts L2 (ops.take j)))
 case atStart=>exact⟨0,rfl,Nat.zero_le _,by omega,HP.out⟩
 obtain⟨j,rfl,hj,hg,hPD⟩:=hrel;by_cases hlt:j<n
 ·have hji:(j:Int)<(n:Int):=(by omega);have hjo:j<ops.length:=(by rw[HF.out.2.2.2.2.2.2.2.2];exact hlt);obtain⟨g,go,vv,rfl,hrd⟩:=HREAD.out j hjo;obtain⟨⟨c0,c1,c2,c3,c4,gl⟩,hv⟩:=hrd wr (fun q hq=>hPD.still hq);obtain⟨pv,cv,rfl,_,_⟩:=hv.slice;have hok:=HF.out.2.2.2.2.2.2.2.1 _ (List.getElem_mem hjo);have hs1:=fM (ts:=ts) (l:=ops.take j) HF.out.2.2.2.2.1;have hs2:=fM (ts:=ts) (l:=ops.take j) HF.out.2.2.2.2.2.1;have htk:(ops.take j).length=j:=(by rw[List.length_take];omega);rw[htk] at hs1 hs2;have hm3:m+j<=390:=(by have:=HF.out.2.2.2.2.2.2.1;omega);have hF1:=pZ (ts:=ts) (L:=L1) hjo;have hF2:=pZ (ts:=ts) (L:=L2) hjo;generalize bR ts L1 (ops.take j)=A at hPD hs1 hF1;generalize bR ts L2 (ops.take j)=B at hPD hs2 hF2;obtain⟨A',hA'⟩:∃ x,bR ts L1 (ops.take (j+1))=x:=⟨_,rfl⟩;obtain⟨B',hB'⟩:∃ x,bR ts L2 (ops.take (j+1))=x:=⟨_,rfl⟩;rw[hA'] at hF1;rw[hB'] at hF2;have HAB:=qAq (qBq hA' hB');clear hA' hB';obtain⟨o,ho⟩:∃ o,ops[j]=o:=⟨_,rfl⟩;simp only[ho] at c0 c1 c2 c3 c4 hv hok hF1 hF2;obtain⟨k,hk⟩:∃ k,o.vals.length=k:=⟨_,rfl⟩;rw[hk] at c4 hv;obtain⟨V,hV⟩:∃ V,wr.heap.size=V:=⟨_,rfl⟩;have hba:=aC wr (.cells #[.int .i64 o.dO,.string o.tbl,.int .i64 o.id,.string o.col,.slice pv k cv] 47);have hna:=qOq wr (.cells #[.int .i64 o.dO,.string o.tbl,.int .i64 o.id,.string o.col,.slice pv k cv] 47);have hz:=qPq wr (.cells #[.int .i64 o.dO,.string o.tbl,.int .i64 o.id,.string o.col,.slice pv k cv] 47);have hP1:=hPD.with hba;have hv1:=hv.later hba;obtain⟨w1,hw1⟩:∃ w1,wr.alloc (.cells #[.int .i64 o.dO,.string o.tbl,.int .i64 o.id,.string o.col,.slice pv k cv] 47)=w1:=⟨_,rfl⟩;rw[hw1] at hba hna hP1 hz hv1;rw[hV] at hna hP1 hz;obtain⟨K',hK'⟩:∃ K':Nat->Prop,(fun q=>K q∨(V<=q/\q<w1.heap.size))=K':=⟨_,rfl⟩;rw[hK'] at hP1;have hKK:∀ q,K q->K' q:=(fun q hq=>by rw[<- hK'];exact .inl hq);have hKV:K' V:=(by rw[<- hK'];exact .inr ⟨Nat.le_refl _,by omega⟩);have hv1:InV K' w1 (.slice pv k cv) o.vals:=hv1.mono (fun q _ hq=>hKK q hq);have HBK:Hid (∀ w (X Y:List PT),PD K' w1 w d b ts ps X Y->PD K W0 w d b ts ps X Y):=qAq (fun w X Y hx=>(hPD.later hba).back hx hKK)
  have HST:Hid (∀ (w:World) (X Y:List PT),PD K' w1 w d b ts ps X Y->w.heap[V]?=some (.cells #[.int .i64 o.dO,.string o.tbl,.int .i64 o.id,.string o.col,.slice pv k cv] 47)/\InV K' w (.slice pv k cv) o.vals):=qAq (fun w X Y hx=>by
   refine⟨(hx.still hKV).trans hna,?_⟩;obtain⟨st,tt,⟨_,_,_,_,_,_,_,hT⟩,_⟩:=hx;exact hv1.tn hT (fun q hq hn=>hn hq))
  obtain⟨tt0,i0,Ob0,hDN,hL0⟩:=hP1.dbn;have hbox:=hDN.box;have hfind:=fA (x:=o.tbl) hDN.rdTs;have HBX:Hid (∀ w,Below w1.heap.size w1 w->w.heap[b]?=some (.cells #[i0.sv,i0.ov,i0.nv] 54)/\w.heap[V]?=some (.cells #[.int .i64 o.dO,.string o.tbl,.int .i64 o.id,.string o.col,.slice pv k cv] 47)/\Calls Tryz.prog 34 #[i0.sv,.string o.tbl] w fun e w'=>e=.returned (.int .i64 (ixT ts o.tbl))/\w'=w):=qAq (fun w hw=>⟨aD hw hbox,aD hw hna,fA (hDN.later hw).rdTs⟩);have HC:=qAq (qBq hP1 (qBq hok (qBq hs1 (qBq hs2 (qBq hm3 (qBq hF1 (qBq hF2 hk)))))));clear hfind hbox hDN hL0 hv hrd hKK hKV hK' hba hna hz hP1 hv1 hok hs1 hs2 hm3 hF1 hF2 hk htk;go_upto_region 4 with fail
  try rw[hw1]
  try rw[hV]
  clear c0 c1 c2 c3 c4 gl hw1 hV;rcases dZ ts o.tbl with ⟨e1,e2,_⟩ | ⟨t,ht,e1,e2,e3⟩
  ·have htab:∀ w,Below w1.heap.size w1 w->Calls Tryz.prog 29 #[.pointer (some ⟨d,0,none⟩),.string o.tbl] w fun e w'=>e=.returned (.pointer none)/\Below w.heap.size w w':=fun w hw=>by
    obtain⟨st,O,hD,_⟩:=(HC.out.1.later hw).dd;exact hD.notable HF.out.2.1 HC.out.2.1.tbl e2
   have HT:=qAq htab;have HE1:=qAq e1;rw[e1] at HBX;clear e1 e2 htab;refine Par.wp_region_par 13 [.pointer (some ⟨d,0,none⟩),.pointer (some ⟨V,1,none⟩),.string o.tbl,.pointer none,.pointer (some ⟨b,0,none⟩),.pointer (some ⟨b,0,none⟩),.pointer (some ⟨b,0,none⟩),i0.sv,.pointer (some ⟨V,1,none⟩),.string o.tbl,.int .i64 (-1),.pointer none,.int .i64 (-1)] (fun w=>Below w1.heap.size w1 w) ?A1 ?hm1 ?hB1 ?hA1 ((aE w1)) ?hop1 ?hT1
   case hm1=>kernel_rfl
   case hB1=>kernel_rfl
   case hA1 =>
    simp only[Par.putA,Par.dstAt,Act.put,qDq,qEq,qFq,qLq,qGq,qHq,qIq,qJq,qKq];rfl
   case hop1 =>
    simp only[qMq,List.take_zero,Par.GiveAll,and_true];and_intros<;>intro w' hR<;>have HR:=qAq hR
    rotate_left;have zl:=lt_of_heap (HBX.out w' hR).2.1;rotate_left;have z1:=aA (HBX.out w' hR).2.1 1;rotate_left
    ·clear hR;simp only[Par.Gives];go_simp;exact (HT.out w' HR.out).mono (fun e w'' ⟨he,hb⟩=>⟨he,aB HR.out hb⟩)
    rotate_left;have zl:=lt_of_heap (HBX.out w' hR).1;rotate_left;have zl:=lt_of_heap (HBX.out w' hR).1;rotate_left;have z1:=aA (HBX.out w' hR).1 0;rotate_left;have zl:=lt_of_heap (HBX.out w' hR).2.1;rotate_left;have z1:=aA (HBX.out w' hR).2.1 1;rotate_left
    ·clear hR;simp only[Par.Gives];go_simp;exact ((HBX.out w' HR.out).2.2).mono (fun e w'' ⟨he,hb⟩=>⟨he,hb▸HR.out⟩)
    rotate_left 2
    all_goals(clear hR;simp only[Par.Gives];go_simp;all_goals exact HR.out)
   intro w' hR;simp only[qNq,List.drop_nil];have hPe:=HBK.out _ _ _ (HC.out.1.later hR);have hN1:=HC.out.2.2.2.2.2.1;have hN2:=HC.out.2.2.2.2.2.2.1;rw[aBV (by rw[HE1.out];omega)] at hN1 hN2;subst hN1 hN2;have HPe:=qAq hPe;clear hR hPe;go_wp2_with fail;go_roundg (n-j)
   case measure=>omega
   exact⟨j+1,rfl,by omega,by omega,by rw[HAB.out.1,HAB.out.2];exact HPe.out⟩
  have hp:t<ps.length:=(by rw[HC.out.1.len.1];exact ht);have hA:t<A.length:=(by rw[HC.out.1.len.2.1];exact ht);have hB:t<B.length:=(by rw[HC.out.1.len.2.2];exact ht);have hsz:=HF.out.2.2.1 _ (List.getElem_mem ht);have hnm:ts[t].nm=o.tbl:=pR e3
  have htab:∀ w,Below w1.heap.size w1 w->Calls Tryz.prog 29 #[.pointer (some ⟨d,0,none⟩),.string o.tbl] w fun e w'=>e=.returned (.pointer (some ⟨ps[t],0,none⟩))/\w'=w:=fun w hw=>by
   have:=(HC.out.1.later hw).table ht hsz hp
   rw[hnm] at this;exact this
  have HT:=qAq htab;rw[e1] at HBX;have hN1:=HC.out.2.2.2.2.2.1;have hN2:=HC.out.2.2.2.2.2.2.1;rw[pY e1 ht hA] at hN1;rw[pY e1 ht hB] at hN2;have hcs:=HF.out.2.2.2.1 _ (List.getElem_mem ht);have hok:=HC.out.2.1;have hsA:=HC.out.2.2.1 _ (List.getElem_mem hA);have hsB:=HC.out.2.2.2.1 _ (List.getElem_mem hB);have hm3:=HC.out.2.2.2.2.1;have hk:=HC.out.2.2.2.2.2.2.2;have HIN1:Hid (∀ w (X Y:List PT),PD K' w1 w d b ts ps X Y->(hX:t<X.length)->SmP (m+j) X[t]->Calls Tryz.prog 35 #[.pointer (some ⟨ps[t],0,none⟩),.slice pv k cv] w fun e w'=>(∃ r1 r2,e=.returned (.tuple #[.int .i64 r1,.int .i64 r2]))/\PD K' w1 w' d b ts ps (X.set t (insP ts[t] X[t] o.vals)) Y):=qAq (fun w X Y hx hX hs=>(hx.insD ht hp hX (HST.out w X Y hx).2 (fun q hq=>hq) hs hm3 hcs.2 hok.vals (by have:=hok.few;omega)).mono (fun e w' ⟨h1,h2⟩=>⟨⟨_,_,h1⟩,h2⟩));have HIN2:Hid (∀ w (X Y:List PT),PD K' w1 w d b ts ps X Y->(hY:t<Y.length)->SmP (m+j) Y[t]->Calls Tryz.prog 36 #[.pointer (some ⟨b,0,none⟩),.int .i64 (t:Int),.slice pv k cv] w fun e w'=>(∃ r1 r2,e=.returned (.tuple #[.int .i64 r1,.int .i64 r2]))/\PD K' w1 w' d b ts ps X (Y.set t (insP ts[t] Y[t] o.vals))):=qAq (fun w X Y hx hY hs=>(hx.insN ht hY (HST.out w X Y hx).2 (fun q hq=>hq) hs hm3 hcs.2 hcs.1 hok.vals (by have:=hok.few;omega)).mono (fun e w' ⟨h1,h2⟩=>⟨⟨_,_,h1⟩,h2⟩));have HDE1:Hid (∀ w (X Y:List PT),PD K' w1 w d b ts ps X Y->(hX:t<X.length)->SmP (m+j) X[t]->Calls Tryz.prog 37 #[.pointer (some ⟨ps[t],0,none⟩),.int .i64 o.id] w fun e w'=>(∃ r,e=.returned (.bool r))/\PD K' w1 w' d b ts ps (X.set t (delP X[t] o.id)) Y):=qAq (fun w X Y hx hX hs=>(hx.delD ht hp hX hok.id hs hm3 hcs.2).mono (fun e w' ⟨h1,h2⟩=>⟨⟨_,h1⟩,h2⟩));have HDE2:Hid (∀ w (X Y:List PT),PD K' w1 w d b ts ps X Y->(hY:t<Y.length)->SmP (m+j) Y[t]->Calls Tryz.prog 38 #[.pointer (some ⟨b,0,none⟩),.int .i64 (t:Int),.int .i64 o.id] w fun e w'=>(∃ r,e=.returned (.bool r))/\PD K' w1 w' d b ts ps X (Y.set t (delP Y[t] o.id))):=qAq (fun w X Y hx hY hs=>(hx.delN ht hY o.id hs hm3).mono (fun e w' ⟨h1,h2⟩=>⟨⟨_,h1⟩,h2⟩));have HSE1:Hid (∀ w (X Y:List PT) (u:T3),u.2.2.size<=maxLen->PD K' w1 w d b ts ps X Y->(hX:t<X.length)->SmP (m+j) X[t]->Calls Tryz.prog 39 #[.pointer (some ⟨ps[t],0,none⟩),.int .i64 o.id,.string o.col,.agg #[.int .i64 (u.1),.int .i64 (u.2.1),.string (u.2.2)]] w fun e w'=>(∃ r,e=.returned (.int .i64 r))/\PD K' w1 w' d b ts ps (X.set t (setP ts[t] X[t] o.id o.col u)) Y):=qAq (fun w X Y u hu hx hX hs=>(hx.setD ht hp hX hok.id o.col u hu hs hm3).mono (fun e w' ⟨h1,h2⟩=>⟨⟨_,h1⟩,h2⟩));have HSE2:Hid (∀ w (X Y:List PT) (u:T3),u.2.2.size<=maxLen->PD K' w1 w d b ts ps X Y->(hY:t<Y.length)->SmP (m+j) Y[t]->Calls Tryz.prog 40 #[.pointer (some ⟨b,0,none⟩),.int .i64 (t:Int),.int .i64 o.id,.string o.col,.agg #[.int .i64 (u.1),.int .i64 (u.2.1),.string (u.2.2)]] w fun e w'=>(∃ r,e=.returned (.int .i64 r))/\PD K' w1 w' d b ts ps X (Y.set t (setP ts[t] Y[t] o.id o.col u))):=qAq (fun w X Y u hu hx hY hs=>(hx.setN ht hY o.id o.col u hu hcs.1 hs hm3).mono (fun e w' ⟨h1,h2⟩=>⟨⟨_,h1⟩,h2⟩));have HSM:=qAq (qBq hA (qBq hB (qBq hsA hsB)));have HVS:=qAq hok.vals;obtain⟨pt,hpt⟩:∃ q,ps[t]=q:=⟨_,rfl⟩;simp only[hpt] at HT HIN1 HDE1 HSE1;have hti:¬ (t:Int)<0:=(by omega);have HN:=qAq (qBq hN1 (qBq hN2 hk));clear htab e1 e2 e3 hsz hnm hN1 hN2 hcs hok hsA hsB hm3 hk hpt;refine Par.wp_region_par 13 [.pointer (some ⟨d,0,none⟩),.pointer (some ⟨V,1,none⟩),.string o.tbl,.pointer (some ⟨pt,0,none⟩),.pointer (some ⟨b,0,none⟩),.pointer (some ⟨b,0,none⟩),.pointer (some ⟨b,0,none⟩),i0.sv,.pointer (some ⟨V,1,none⟩),.string o.tbl,.int .i64 (t:Int),.pointer (some ⟨pt,0,none⟩),.int .i64 (t:Int)] (fun w=>Below w1.heap.size w1 w) ?A2 ?hm2 ?hB2 ?hA2 ((aE w1)) ?hop2 ?hT2
  case hm2=>kernel_rfl
  case hB2=>kernel_rfl
  case hA2 =>
   simp only[Par.putA,Par.dstAt,Act.put,qDq,qEq,qFq,qLq,qGq,qHq,qIq,qJq,qKq];rfl
  case hop2 =>
   simp only[qMq,List.take_zero,Par.GiveAll,and_true];and_intros<;>intro w' hR<;>have HR:=qAq hR
   rotate_left;have zl:=lt_of_heap (HBX.out w' hR).2.1;rotate_left;have z1:=aA (HBX.out w' hR).2.1 1;rotate_left
   ·clear hR;simp only[Par.Gives];go_simp;exact (HT.out w' HR.out).mono (fun e w'' ⟨he,hb⟩=>⟨he,hb▸HR.out⟩)
   rotate_left;have zl:=lt_of_heap (HBX.out w' hR).1;rotate_left;have zl:=lt_of_heap (HBX.out w' hR).1;rotate_left;have z1:=aA (HBX.out w' hR).1 0;rotate_left;have zl:=lt_of_heap (HBX.out w' hR).2.1;rotate_left;have z1:=aA (HBX.out w' hR).2.1 1;rotate_left
   ·clear hR;simp only[Par.Gives];go_simp;exact ((HBX.out w' HR.out).2.2).mono (fun e w'' ⟨he,hb⟩=>⟨he,hb▸HR.out⟩)
   rotate_left 2
   all_goals(clear hR;simp only[Par.Gives];go_simp;all_goals exact HR.out)
  intro w' hR;simp only[qNq,List.drop_nil];have HP2:=qAq (HC.out.1.later hR);have v2:=(HBX.out w' hR).2.1;have z0:=aA v2 0;have z2:=aA v2 2;have zc3:=aA v2 3;have z4:=aA v2 4;have zl:=lt_of_heap v2;clear v2 hR;obtain⟨w2,rfl⟩:∃ x,x=w':=⟨_,rfl⟩;by_cases d1:o.dO=1
  ·rw[d1] at z0;have hin:=HIN1.out w2 A B HP2.out HSM.out.1 HSM.out.2.2.1;obtain⟨hN1,hN2,_⟩:=HN.out;rw[if_pos d1] at hN1 hN2;subst hN1 hN2;clear d1
   go_wp2_with (first
    | (go_at_call 35;(with_reducible refine hin.mono ?_);rintro e w3 ⟨⟨r1,r2,rfl⟩,hP3⟩;have hin2:=HIN2.out w3 _ B hP3 HSM.out.2.1 HSM.out.2.2.2;have v3:=(HST.out w3 _ _ hP3).1;have y4:=aA v3 4;have yl:=lt_of_heap v3;clear hin z0 z2 zc3 z4 zl v3 hP3)
    | (go_at_call 36;(with_reducible refine hin2.mono ?_);rintro e w4 ⟨⟨r3,r4,rfl⟩,hP4⟩;have HP4:=qAq hP4;clear hin2 y4 yl hP4))
   go_roundg (n-j)
   case measure=>omega
   exact⟨j+1,rfl,by omega,by omega,by rw[HAB.out.1,HAB.out.2];exact HBK.out _ _ _ HP4.out⟩
  have b1:(o.dO==1)=false:=beq_eq_false_iff_ne.2 d1;by_cases d2:o.dO=2
  ·rw[d2] at z0;have hin:=HDE1.out w2 A B HP2.out HSM.out.1 HSM.out.2.2.1;obtain⟨hN1,hN2,_⟩:=HN.out;rw[if_neg d1,if_pos d2] at hN1 hN2;subst hN1 hN2;clear d1 d2 b1
   go_wp2_with (first
    | (go_at_call 37;(with_reducible refine hin.mono ?_);rintro e w3 ⟨⟨r1,rfl⟩,hP3⟩;have hin2:=HDE2.out w3 _ B hP3 HSM.out.2.1 HSM.out.2.2.2;have v3:=(HST.out w3 _ _ hP3).1;have y4:=aA v3 2;have yl:=lt_of_heap v3;clear hin z0 z2 zc3 z4 zl v3 hP3)
    | (go_at_call 38;(with_reducible refine hin2.mono ?_);rintro e w4 ⟨⟨r3,rfl⟩,hP4⟩;have HP4:=qAq hP4;clear hin2 y4 yl hP4))
   go_roundg (n-j)
   case measure=>omega
   exact⟨j+1,rfl,by omega,by omega,by rw[HAB.out.1,HAB.out.2];exact HBK.out _ _ _ HP4.out⟩
  have b2:(o.dO==2)=false:=beq_eq_false_iff_ne.2 d2;by_cases dk:k=1
  ·subst dk;have hk1:o.vals.length=1:=HN.out.2.2;obtain⟨u,hu⟩:∃ u,o.vals.getD 0 z3=u:=⟨_,rfl⟩;have hu0:o.vals[0]'(by omega)=u:=(by rw[<- hu,List.getD_eq_getElem?_getD,qQq (by omega)];rfl);obtain⟨vb,vo,rfl,qq1,qq2⟩:=InV.val (HST.out w2 A B HP2.out).2 (j:=0) (by omega);clear qq2 qq1
   have HU:Hid (∀ (w:World) (X Y:List PT),PD K' w1 w d b ts ps X Y->w.cell? ⟨vb,vo,none⟩=some (.int .i64 u.1)/\w.cell? ⟨vb,vo+1,none⟩=some (.int .i64 u.2.1)/\w.cell? ⟨vb,vo+2,none⟩=some (.string u.2.2)/\vb<w.heap.size):=qAq (fun w X Y hx=>by
    obtain⟨b',o',e,q1,q2,q3,q4⟩:=InV.val (HST.out w X Y hx).2 (j:=0) (by omega);cases e;rw[hu0] at q2 q3 q4;exact⟨q2,q3,q4,q1⟩)
   have hus:u.2.2.size<=maxLen:=(by rw[<- hu0];exact HVS.out _ (List.getElem_mem _));have HUS:=qAq hus;have hin:=HSE1.out w2 A B u hus HP2.out HSM.out.1 HSM.out.2.2.1;obtain⟨hN1,hN2,_⟩:=HN.out;rw[if_neg d1,if_neg d2,if_pos hk1,hu] at hN1 hN2;subst hN1 hN2;have hk0:(0:Int)<1:=(by decide);clear d1 d2 hk1 hu hu0 hus hin;go_upto_region 13 with fail;clear z0 z2 zc3 z4 zl;refine Par.wp_region_par 9 [.pointer (some ⟨pt,0,none⟩),.pointer (some ⟨V,2,none⟩),.int .i64 o.id,.pointer (some ⟨V,3,none⟩),.string o.col,.pointer (some ⟨V,4,none⟩),.slice (some ⟨vb,vo,none⟩) 1 cv,.pointer (some ⟨vb,vo,none⟩),.agg #[.int .i64 (u.1),.int .i64 (u.2.1),.string (u.2.2)]] (fun w=>Below w2.heap.size w2 w) ?A3 ?hm3 ?hB3 ?hA3 ((aE w2)) ?hop3 ?hT3
   case hm3=>kernel_rfl
   case hB3=>kernel_rfl
   case hA3 =>
    simp only[Par.putA,Par.dstAt,Act.put,qDq,qEq,qFq,qLq,qGq,qHq,qIq,qJq,qKq];rfl
   case hop3 =>
    simp only[qMq,List.take_zero,Par.GiveAll,and_true];and_intros<;>intro w' hR<;>have HR:=qAq hR
    rotate_left;have zl:=lt_of_heap (HST.out w' _ _ (HP2.out.later hR)).1;rotate_left;have z1:=aA (HST.out w' _ _ (HP2.out.later hR)).1 2;rotate_left;have zl:=lt_of_heap (HST.out w' _ _ (HP2.out.later hR)).1;rotate_left;have z1:=aA (HST.out w' _ _ (HP2.out.later hR)).1 3;rotate_left;have zl:=lt_of_heap (HST.out w' _ _ (HP2.out.later hR)).1;rotate_left;have z1:=aA (HST.out w' _ _ (HP2.out.later hR)).1 4;rotate_left 2;have z1:=(HU.out w' _ _ (HP2.out.later hR)).1;have z2:=(HU.out w' _ _ (HP2.out.later hR)).2.1;have z3':=(HU.out w' _ _ (HP2.out.later hR)).2.2.1;rotate_left
    all_goals(clear hR;simp only[Par.Gives];go_simp;all_goals exact HR.out)
   intro w' hR;simp only[qNq,List.drop_zero];have hin:=HSE1.out w' A B u HUS.out (HP2.out.later hR) HSM.out.1 HSM.out.2.2.1;clear hR;go_upto_region 14 with (go_at_call 39;(with_reducible refine hin.mono ?_);rintro e w3 ⟨⟨r1,rfl⟩,hP3⟩;have HP3:=qAq hP3;clear hin hP3);refine Par.wp_region_par 10 [.pointer (some ⟨b,0,none⟩),.int .i64 (t:Int),.pointer (some ⟨V,2,none⟩),.int .i64 o.id,.pointer (some ⟨V,3,none⟩),.string o.col,.pointer (some ⟨V,4,none⟩),.slice (some ⟨vb,vo,none⟩) 1 cv,.pointer (some ⟨vb,vo,none⟩),.agg #[.int .i64 (u.1),.int .i64 (u.2.1),.string (u.2.2)]] (fun w=>Below w3.heap.size w3 w) ?A4 ?hm4 ?hB4 ?hA4 ((aE w3)) ?hop4 ?hT4
   case hm4=>kernel_rfl
   case hB4=>kernel_rfl
   case hA4 =>
    simp only[Par.putA,Par.dstAt,Act.put,qDq,qEq,qFq,qLq,qGq,qHq,qIq,qJq,qKq];rfl
   case hop4 =>
    simp only[qMq,List.take_zero,Par.GiveAll,and_true];and_intros<;>intro w' hR<;>have HR:=qAq hR
    rotate_left 2;have zl:=lt_of_heap (HST.out w' _ _ (HP3.out.later hR)).1;rotate_left;have z1:=aA (HST.out w' _ _ (HP3.out.later hR)).1 2;rotate_left;have zl:=lt_of_heap (HST.out w' _ _ (HP3.out.later hR)).1;rotate_left;have z1:=aA (HST.out w' _ _ (HP3.out.later hR)).1 3;rotate_left;have zl:=lt_of_heap (HST.out w' _ _ (HP3.out.later hR)).1;rotate_left;have z1:=aA (HST.out w' _ _ (HP3.out.later hR)).1 4;rotate_left 2;have z1:=(HU.out w' _ _ (HP3.out.later hR)).1;have z2:=(HU.out w' _ _ (HP3.out.later hR)).2.1;have z3':=(HU.out w' _ _ (HP3.out.later hR)).2.2.1;rotate_left
    all_goals(clear hR;simp only[Par.Gives];go_simp;all_goals exact HR.out)
   intro w' hR;simp only[qNq,List.drop_zero];have hin2:=HSE2.out w' _ B u HUS.out (HP3.out.later hR) HSM.out.2.1 HSM.out.2.2.2;clear hR;go_wp2_with (go_at_call 40;(with_reducible refine hin2.mono ?_);rintro e w4 ⟨⟨r2,rfl⟩,hP4⟩;have HP4:=qAq hP4;clear hin2 hP4);go_roundg (n-j)
   case measure=>omega
   exact⟨j+1,rfl,by omega,by omega,by rw[HAB.out.1,HAB.out.2];exact HBK.out _ _ _ HP4.out⟩
  have b3:((k:Int)==1)=false:=beq_eq_false_iff_ne.2 (by omega);obtain⟨hN1,hN2,hk⟩:=HN.out;rw[if_neg d1,if_neg d2,if_neg (by omega)] at hN1 hN2;subst hN1 hN2;have HPe:=qAq (HBK.out _ _ _ HP2.out);clear d1 d2 dk hk;go_wp2_with fail;go_roundg (n-j)
  case measure=>omega
  exact⟨j+1,rfl,by omega,by omega,by rw[HAB.out.1,HAB.out.2];exact HPe.out⟩
 obtain rfl:j=n:=(by omega);have e1:ops.take j=ops:=(by rw[List.take_of_length_le (by rw[HF.out.2.2.2.2.2.2.2.2];exact Nat.le_refl _)]);rw[e1] at hPD;have HPD:=qAq hPD;clear hPD e1;go_wp2_with fail
 go_end0
 exact⟨rfl,HPD.out⟩
