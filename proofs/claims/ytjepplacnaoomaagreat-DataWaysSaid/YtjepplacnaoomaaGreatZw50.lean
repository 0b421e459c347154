import Derived.Test.YtjepplacnaoomaaGreatZw47
import Derived.Test.YtjepplacnaoomaaGreatZw48
import Derived.Test.YtjepplacnaoomaaGreatZw49
set_option maxHeartbeats 8000000
set_option maxRecDepth 100000
namespace Go.Proofs.YtjepplacnaoomaaGreat
open Go Go.RowKit Go.Proofs Co Co.S
theorem fill_any {K:Nat->Prop} {W0 w0:World} {d b:Nat} {ts:List T} {ps:List Nat} {L1 L2:List PT} {tv:Value} {ops:List OpX} {base m:Nat} (h:PD K W0 w0 d b ts ps L1 L2) (ho:OpsO W0 base tv ops) (hK:∀ q,base<=q->q<W0.heap.size->K q) (hi:InvQ ts) (hfew:AllFew ts) (hsz:Short ts) (hcs:∀ t∈ts,0<t.cols.length/\t.cols.length<=1000)
  (h1:∀ x∈L1,SmP m x) (h2:∀ x∈L2,SmP m x) (hm:m+ops.length<=390) (hops:∀ o∈ops,OpOk o) :
  Calls Tryz.prog 15 #[(Value.pointer (some ⟨d,0,none⟩)),(Value.pointer (some ⟨b,0,none⟩)),tv] w0 fun e w'=>e=.returned (.tuple #[])/\PD K W0 w' d b ts ps (fillP ts L1 ops) (fillP ts L2 ops):=by
 have hslice:∃ p cap,tv=.slice p ops.length cap:=by
  obtain⟨sv,_,h3,_⟩:=ho;obtain⟨p,cap,e,_,_⟩:=h3.isslice;exact⟨p,cap,e⟩
 obtain⟨p,cap,rfl⟩:=hslice;have hread:=(fun {j:Nat} (hj:j<ops.length)=>ops_read ho hK hj);obtain⟨n,hn⟩:∃ n,ops.length=n:=⟨_,rfl⟩;have HREAD:Hid (∀ j (hj:j<ops.length),_):=Lib.hid (fun j hj=>hread hj);have HF:=Lib.hid (And.intro hi (And.intro hfew (And.intro hsz (And.intro hcs (And.intro h1 (And.intro h2 (And.intro hm (And.intro hops hn))))))));have HP:=Lib.hid h;rw[hn];clear hread ho hK hi hfew hsz hcs h1 h2 hm hops hn h;go_enter Tryz.func15,Tryz.ntmps15;have hn3:(n:Int)<=390:=(by have h1:=HF.out.2.2.2.2.2.2.1;have h2:=HF.out.2.2.2.2.2.2.2.2;omega);go_wp2_with fail;go_loopg [6] (n+1) (fun gh jv w=>∃ (j:Nat),jv=.int .i64 (j:Int)/\j<=n/\n+1<=j+gh/\PD K W0 w d b ts ps (fillP ts L1 (ops.take j)) (fillP ts L2 (ops.take j)))
 case atStart=>exact⟨0,rfl,Nat.zero_le _,by omega,HP.out⟩
 case round =>
  obtain⟨j,rfl,hj,hg,hPD⟩:=hrel;by_cases hlt:j<n
  ·have hji:(j:Int)<(n:Int):=(by omega);have hjo:j<ops.length:=(by rw[HF.out.2.2.2.2.2.2.2.2];exact hlt);obtain⟨g,cap',vv,etv,hrd⟩:=HREAD.out j hjo;obtain⟨rfl,rfl⟩:p=some ⟨g,0,none⟩/\cap=cap':=(by cases etv;exact⟨rfl,rfl⟩);obtain⟨⟨c0,c1,c2,c3,c4,gl⟩,_,hv⟩:=hrd wr (fun q hq=>hPD.still hq);obtain⟨pv,cv,rfl,_,_⟩:=hv.slice;have hok:=HF.out.2.2.2.2.2.2.2.1 _ (List.getElem_mem hjo);have hs1:=fillP_sm (ts:=ts) (l:=ops.take j) HF.out.2.2.2.2.1;have hs2:=fillP_sm (ts:=ts) (l:=ops.take j) HF.out.2.2.2.2.2.1;have htk:(ops.take j).length=j:=(by rw[List.length_take];omega);rw[htk] at hs1 hs2;have hm3:m+j<=390:=(by have:=HF.out.2.2.2.2.2.2.1;omega);have hF1:=fillP_snoc (ts:=ts) (L:=L1) hjo;have hF2:=fillP_snoc (ts:=ts) (L:=L2) hjo;generalize fillP ts L1 (ops.take j)=A at hPD hs1 hF1;generalize fillP ts L2 (ops.take j)=B at hPD hs2 hF2;obtain⟨A',hA'⟩:∃ x,fillP ts L1 (ops.take (j+1))=x:=⟨_,rfl⟩;obtain⟨B',hB'⟩:∃ x,fillP ts L2 (ops.take (j+1))=x:=⟨_,rfl⟩;rw[hA'] at hF1;rw[hB'] at hF2;have HAB:=Lib.hid (And.intro hA' hB');clear hA' hB';obtain⟨o,ho⟩:∃ o,ops[j]=o:=⟨_,rfl⟩;simp only[ho] at c0 c1 c2 c3 c4 hv hok hF1 hF2;obtain⟨k,hk⟩:∃ k,o.vals.length=k:=⟨_,rfl⟩;rw[hk] at c4 hv;obtain⟨V,hV⟩:∃ V,wr.heap.size=V:=⟨_,rfl⟩;have hba:=below_alloc wr (.cells #[.int .i64 o.dO,.string o.tbl,.int .i64 o.id,.string o.col,.slice pv k cv] 85);have hna:=heap_alloc_new wr (.cells #[.int .i64 o.dO,.string o.tbl,.int .i64 o.id,.string o.col,.slice pv k cv] 85);have hz:=World.size_alloc wr (.cells #[.int .i64 o.dO,.string o.tbl,.int .i64 o.id,.string o.col,.slice pv k cv] 85);have hP1:=hPD.with hba;have hv1:=hv.later hba;obtain⟨w1,hw1⟩:∃ w1,wr.alloc (.cells #[.int .i64 o.dO,.string o.tbl,.int .i64 o.id,.string o.col,.slice pv k cv] 85)=w1:=⟨_,rfl⟩;rw[hw1] at hba hna hP1 hz hv1;rw[hV] at hna hP1 hz;obtain⟨K',hK'⟩:∃ K':Nat->Prop,(fun q=>K q∨(V<=q/\q<w1.heap.size))=K':=⟨_,rfl⟩;rw[hK'] at hP1;have hKK:∀ q,K q->K' q:=(fun q hq=>by rw[<- hK'];exact .inl hq);have hKV:K' V:=(by rw[<- hK'];exact .inr ⟨Nat.le_refl _,by omega⟩);have hv1:InV K' w1 (.slice pv k cv) o.vals:=hv1.mono (fun q _ hq=>hKK q hq);have HBK:Hid (∀ w (X Y:List PT),PD K' w1 w d b ts ps X Y->PD K W0 w d b ts ps X Y):=Lib.hid (fun w X Y hx=>(hPD.later hba).back hx hKK)
   have HST:Hid (∀ (w:World) (X Y:List PT),PD K' w1 w d b ts ps X Y->w.heap[V]?=some (.cells #[.int .i64 o.dO,.string o.tbl,.int .i64 o.id,.string o.col,.slice pv k cv] 85)/\InV K' w (.slice pv k cv) o.vals):=Lib.hid (fun w X Y hx=>by
    refine⟨(hx.still hKV).trans hna,?_⟩;obtain⟨st,tt,⟨_,_,_,_,_,_,_,hT⟩,_⟩:=hx;exact hv1.tn hT (fun q hq hn=>hn hq))
   obtain⟨tt0,i0,Ob0,hDN,hL0⟩:=hP1.dbn;have hbox:=hDN.box;have hfind:=rfind_any (x:=o.tbl) hDN.rdTs;have HBX:Hid (∀ w,Below w1.heap.size w1 w->w.heap[b]?=some (.cells #[i0.sv,i0.ov,i0.nv] 42)/\w.heap[V]?=some (.cells #[.int .i64 o.dO,.string o.tbl,.int .i64 o.id,.string o.col,.slice pv k cv] 85)/\Calls Tryz.prog 46 #[i0.sv,.string o.tbl] w fun e w'=>e=.returned (.int .i64 (ixT ts o.tbl))/\w'=w):=Lib.hid (fun w hw=>⟨heap_on hw hbox,heap_on hw hna,rfind_any (hDN.later hw).rdTs⟩);have HC:=Lib.hid (And.intro hP1 (And.intro hok (And.intro hs1 (And.intro hs2 (And.intro hm3 (And.intro hF1 (And.intro hF2 hk)))))));clear hfind hbox hDN hL0 hv hrd etv hKK hKV hK' hba hna hz hP1 hv1 hok hs1 hs2 hm3 hF1 hF2 hk htk;go_upto_region 4 with fail
   try rw[hw1]
   try rw[hV]
   clear c0 c1 c2 c3 c4 gl hw1 hV;rcases ixT_cases ts o.tbl with ⟨e1,e2,_⟩ | ⟨t,ht,e1,e2,e3⟩
   ·have htab:∀ w,Below w1.heap.size w1 w->Calls Tryz.prog 32 #[(Value.pointer (some ⟨d,0,none⟩)),.string o.tbl] w fun e w'=>e=.returned (.pointer none)/\Below w.heap.size w w':=fun w hw=>by
     obtain⟨st,O,hD,_⟩:=(HC.out.1.later hw).dd;exact hD.notable HF.out.2.1 HC.out.2.1.tbl e2
    have HT:=Lib.hid htab;have HE1:=Lib.hid e1;rw[e1] at HBX;clear e1 e2 htab;refine Par.wp_region_par 13 [(Value.pointer (some ⟨d,0,none⟩)),(Value.pointer (some ⟨V,1,none⟩)),.string o.tbl,.pointer none,(Value.pointer (some ⟨b,0,none⟩)),(Value.pointer (some ⟨b,0,none⟩)),(Value.pointer (some ⟨b,0,none⟩)),i0.sv,(Value.pointer (some ⟨V,1,none⟩)),.string o.tbl,.int .i64 (-1),.pointer none,.int .i64 (-1)] (fun w=>Below w1.heap.size w1 w) ?A1 ?hm1 ?hB1 ?hA1 ((below_drew w1)) ?hop1 ?hT1
    case hm1=>kernel_rfl
    case hB1=>kernel_rfl
    case hA1 =>
     simp only[Par.putA,Par.dstAt,Act.put,List.getElem?_toArray,List.getElem?_cons_zero,List.getElem?_cons_succ,Option.bind_some,List.setIfInBounds_toArray,List.set_cons_zero,List.set_cons_succ,List.getD_cons_zero,List.getD_cons_succ];rfl
    case hop1 =>
     simp only[List.take_succ_cons,List.take_zero,Par.GiveAll,and_true];and_intros<;>intro w' hR
     ·have HR:=Lib.hid hR;clear hR;simp only[Par.Gives];go_simp;all_goals exact HR.out
     ·have HR:=Lib.hid hR;have zl:=lt_of_heap (HBX.out w' hR).2.1;clear hR;simp only[Par.Gives];go_simp;all_goals exact HR.out
     ·have HR:=Lib.hid hR;have z1:=nd_cell (HBX.out w' hR).2.1 1;clear hR;simp only[Par.Gives];go_simp;all_goals exact HR.out
     ·have HR:=Lib.hid hR;clear hR;simp only[Par.Gives];go_simp;exact (HT.out w' HR.out).mono (fun e w'' ⟨he,hb⟩=>⟨he,below_on HR.out hb⟩)
     ·have HR:=Lib.hid hR;clear hR;simp only[Par.Gives];go_simp;all_goals exact HR.out
     ·have HR:=Lib.hid hR;have zl:=lt_of_heap (HBX.out w' hR).1;clear hR;simp only[Par.Gives];go_simp;all_goals exact HR.out
     ·have HR:=Lib.hid hR;have zl:=lt_of_heap (HBX.out w' hR).1;clear hR;simp only[Par.Gives];go_simp;all_goals exact HR.out
     ·have HR:=Lib.hid hR;have z1:=nd_cell (HBX.out w' hR).1 0;clear hR;simp only[Par.Gives];go_simp;all_goals exact HR.out
     ·have HR:=Lib.hid hR;have zl:=lt_of_heap (HBX.out w' hR).2.1;clear hR;simp only[Par.Gives];go_simp;all_goals exact HR.out
     ·have HR:=Lib.hid hR;have z1:=nd_cell (HBX.out w' hR).2.1 1;clear hR;simp only[Par.Gives];go_simp;all_goals exact HR.out
     ·have HR:=Lib.hid hR;clear hR;simp only[Par.Gives];go_simp;exact ((HBX.out w' HR.out).2.2).mono (fun e w'' ⟨he,hb⟩=>⟨he,hb▸HR.out⟩)
     ·have HR:=Lib.hid hR;clear hR;simp only[Par.Gives];go_simp;all_goals exact HR.out
     ·have HR:=Lib.hid hR;clear hR;simp only[Par.Gives];go_simp;all_goals exact HR.out
    case hT1 =>
     intro w' hR;simp only[List.drop_succ_cons,List.drop_nil];have hPe:=HBK.out _ _ _ (HC.out.1.later hR);have hN1:=HC.out.2.2.2.2.2.1;have hN2:=HC.out.2.2.2.2.2.2.1;rw[fill1_neg (by rw[HE1.out];omega)] at hN1 hN2;subst hN1 hN2;have HPe:=Lib.hid hPe;clear hR hPe;go_wp2_with fail;go_roundg (n-j)
     case measure=>omega
     case rel=>exact⟨j+1,rfl,by omega,by omega,by rw[HAB.out.1,HAB.out.2];exact HPe.out⟩
   ·have hp:t<ps.length:=(by rw[HC.out.1.len.1];exact ht);have hA:t<A.length:=(by rw[HC.out.1.len.2.1];exact ht);have hB:t<B.length:=(by rw[HC.out.1.len.2.2];exact ht);have hsz:=HF.out.2.2.1 _ (List.getElem_mem ht);have hnm:ts[t].nm=o.tbl:=nm_of_find e3
    have htab:∀ w,Below w1.heap.size w1 w->Calls Tryz.prog 32 #[(Value.pointer (some ⟨d,0,none⟩)),.string o.tbl] w fun e w'=>e=.returned (Value.pointer (some ⟨ps[t],0,none⟩))/\w'=w:=fun w hw=>by
     have:=(HC.out.1.later hw).table ht hsz hp
     rw[hnm] at this;exact this
    have HT:=Lib.hid htab;rw[e1] at HBX;have hN1:=HC.out.2.2.2.2.2.1;have hN2:=HC.out.2.2.2.2.2.2.1;rw[fill1_at e1 ht hA] at hN1;rw[fill1_at e1 ht hB] at hN2;have hcs:=HF.out.2.2.2.1 _ (List.getElem_mem ht);have hok:=HC.out.2.1;have hsA:=HC.out.2.2.1 _ (List.getElem_mem hA);have hsB:=HC.out.2.2.2.1 _ (List.getElem_mem hB);have hm3:=HC.out.2.2.2.2.1;have hk:=HC.out.2.2.2.2.2.2.2;have HIN1:Hid (∀ w (X Y:List PT),PD K' w1 w d b ts ps X Y->(hX:t<X.length)->SmP (m+j) X[t]->Calls Tryz.prog 43 #[(Value.pointer (some ⟨ps[t],0,none⟩)),.slice pv k cv] w fun e w'=>(∃ r1 r2,e=.returned (.tuple #[.int .i64 r1,.int .i64 r2]))/\PD K' w1 w' d b ts ps (X.set t (insP ts[t] X[t] o.vals)) Y):=Lib.hid (fun w X Y hx hX hs=>(hx.insD ht hp hX (HST.out w X Y hx).2 (fun q hq=>hq) hs hm3 hcs.2 hok.vals (by have:=hok.few;omega)).mono (fun e w' ⟨h1,h2⟩=>⟨⟨_,_,h1⟩,h2⟩));have HIN2:Hid (∀ w (X Y:List PT),PD K' w1 w d b ts ps X Y->(hY:t<Y.length)->SmP (m+j) Y[t]->Calls Tryz.prog 47 #[(Value.pointer (some ⟨b,0,none⟩)),.int .i64 (t:Int),.slice pv k cv] w fun e w'=>(∃ r1 r2,e=.returned (.tuple #[.int .i64 r1,.int .i64 r2]))/\PD K' w1 w' d b ts ps X (Y.set t (insP ts[t] Y[t] o.vals))):=Lib.hid (fun w X Y hx hY hs=>(hx.insN ht hY (HST.out w X Y hx).2 (fun q hq=>hq) hs hm3 hcs.2 hcs.1 hok.vals (by have:=hok.few;omega)).mono (fun e w' ⟨h1,h2⟩=>⟨⟨_,_,h1⟩,h2⟩));have HDE1:Hid (∀ w (X Y:List PT),PD K' w1 w d b ts ps X Y->(hX:t<X.length)->SmP (m+j) X[t]->Calls Tryz.prog 48 #[(Value.pointer (some ⟨ps[t],0,none⟩)),.int .i64 o.id] w fun e w'=>(∃ r,e=.returned (.bool r))/\PD K' w1 w' d b ts ps (X.set t (delP X[t] o.id)) Y):=Lib.hid (fun w X Y hx hX hs=>(hx.delD ht hp hX hok.id hs hm3 hcs.2).mono (fun e w' ⟨h1,h2⟩=>⟨⟨_,h1⟩,h2⟩));have HDE2:Hid (∀ w (X Y:List PT),PD K' w1 w d b ts ps X Y->(hY:t<Y.length)->SmP (m+j) Y[t]->Calls Tryz.prog 49 #[(Value.pointer (some ⟨b,0,none⟩)),.int .i64 (t:Int),.int .i64 o.id] w fun e w'=>(∃ r,e=.returned (.bool r))/\PD K' w1 w' d b ts ps X (Y.set t (delP Y[t] o.id))):=Lib.hid (fun w X Y hx hY hs=>(hx.delN ht hY o.id hs hm3).mono (fun e w' ⟨h1,h2⟩=>⟨⟨_,h1⟩,h2⟩));have HSE1:Hid (∀ w (X Y:List PT) (u:T3),u.2.2.size<=maxLen->PD K' w1 w d b ts ps X Y->(hX:t<X.length)->SmP (m+j) X[t]->Calls Tryz.prog 50 #[(Value.pointer (some ⟨ps[t],0,none⟩)),.int .i64 o.id,.string o.col,(Value.agg #[Value.int .i64 (u.1),Value.int .i64 (u.2.1),Value.string (u.2.2)])] w fun e w'=>(∃ r,e=.returned (.int .i64 r))/\PD K' w1 w' d b ts ps (X.set t (setP ts[t] X[t] o.id o.col u)) Y):=Lib.hid (fun w X Y u hu hx hX hs=>(hx.setD ht hp hX hok.id o.col u hu hs hm3).mono (fun e w' ⟨h1,h2⟩=>⟨⟨_,h1⟩,h2⟩));have HSE2:Hid (∀ w (X Y:List PT) (u:T3),u.2.2.size<=maxLen->PD K' w1 w d b ts ps X Y->(hY:t<Y.length)->SmP (m+j) Y[t]->Calls Tryz.prog 51 #[(Value.pointer (some ⟨b,0,none⟩)),.int .i64 (t:Int),.int .i64 o.id,.string o.col,(Value.agg #[Value.int .i64 (u.1),Value.int .i64 (u.2.1),Value.string (u.2.2)])] w fun e w'=>(∃ r,e=.returned (.int .i64 r))/\PD K' w1 w' d b ts ps X (Y.set t (setP ts[t] Y[t] o.id o.col u))):=Lib.hid (fun w X Y u hu hx hY hs=>(hx.setN ht hY o.id o.col u hu hcs.1 hs hm3).mono (fun e w' ⟨h1,h2⟩=>⟨⟨_,h1⟩,h2⟩));have HSM:=Lib.hid (And.intro hA (And.intro hB (And.intro hsA hsB)));have HVS:=Lib.hid hok.vals;obtain⟨pt,hpt⟩:∃ q,ps[t]=q:=⟨_,rfl⟩;simp only[hpt] at HT HIN1 HDE1 HSE1;have hti:¬ (t:Int)<0:=(by omega);have HN:=Lib.hid (And.intro hN1 (And.intro hN2 hk));clear htab e1 e2 e3 hsz hnm hN1 hN2 hcs hok hsA hsB hm3 hk hpt;refine Par.wp_region_par 13 [(Value.pointer (some ⟨d,0,none⟩)),(Value.pointer (some ⟨V,1,none⟩)),.string o.tbl,(Value.pointer (some ⟨pt,0,none⟩)),(Value.pointer (some ⟨b,0,none⟩)),(Value.pointer (some ⟨b,0,none⟩)),(Value.pointer (some ⟨b,0,none⟩)),i0.sv,(Value.pointer (some ⟨V,1,none⟩)),.string o.tbl,.int .i64 (t:Int),(Value.pointer (some ⟨pt,0,none⟩)),.int .i64 (t:Int)] (fun w=>Below w1.heap.size w1 w) ?A2 ?hm2 ?hB2 ?hA2 ((below_drew w1)) ?hop2 ?hT2
    case hm2=>kernel_rfl
    case hB2=>kernel_rfl
    case hA2 =>
     simp only[Par.putA,Par.dstAt,Act.put,List.getElem?_toArray,List.getElem?_cons_zero,List.getElem?_cons_succ,Option.bind_some,List.setIfInBounds_toArray,List.set_cons_zero,List.set_cons_succ,List.getD_cons_zero,List.getD_cons_succ];rfl
    case hop2 =>
     simp only[List.take_succ_cons,List.take_zero,Par.GiveAll,and_true];and_intros<;>intro w' hR
     ·have HR:=Lib.hid hR;clear hR;simp only[Par.Gives];go_simp;all_goals exact HR.out
     ·have HR:=Lib.hid hR;have zl:=lt_of_heap (HBX.out w' hR).2.1;clear hR;simp only[Par.Gives];go_simp;all_goals exact HR.out
     ·have HR:=Lib.hid hR;have z1:=nd_cell (HBX.out w' hR).2.1 1;clear hR;simp only[Par.Gives];go_simp;all_goals exact HR.out
     ·have HR:=Lib.hid hR;clear hR;simp only[Par.Gives];go_simp;exact (HT.out w' HR.out).mono (fun e w'' ⟨he,hb⟩=>⟨he,hb▸HR.out⟩)
     ·have HR:=Lib.hid hR;clear hR;simp only[Par.Gives];go_simp;all_goals exact HR.out
     ·have HR:=Lib.hid hR;have zl:=lt_of_heap (HBX.out w' hR).1;clear hR;simp only[Par.Gives];go_simp;all_goals exact HR.out
     ·have HR:=Lib.hid hR;have zl:=lt_of_heap (HBX.out w' hR).1;clear hR;simp only[Par.Gives];go_simp;all_goals exact HR.out
     ·have HR:=Lib.hid hR;have z1:=nd_cell (HBX.out w' hR).1 0;clear hR;simp only[Par.Gives];go_simp;all_goals exact HR.out
     ·have HR:=Lib.hid hR;have zl:=lt_of_heap (HBX.out w' hR).2.1;clear hR;simp only[Par.Gives];go_simp;all_goals exact HR.out
     ·have HR:=Lib.hid hR;have z1:=nd_cell (HBX.out w' hR).2.1 1;clear hR;simp only[Par.Gives];go_simp;all_goals exact HR.out
     ·have HR:=Lib.hid hR;clear hR;simp only[Par.Gives];go_simp;exact ((HBX.out w' HR.out).2.2).mono (fun e w'' ⟨he,hb⟩=>⟨he,hb▸HR.out⟩)
     ·have HR:=Lib.hid hR;clear hR;simp only[Par.Gives];go_simp;all_goals exact HR.out
     ·have HR:=Lib.hid hR;clear hR;simp only[Par.Gives];go_simp;all_goals exact HR.out
    case hT2 =>
     intro w' hR;simp only[List.drop_succ_cons,List.drop_nil];have HP2:=Lib.hid (HC.out.1.later hR);have v2:=(HBX.out w' hR).2.1;have z0:=nd_cell v2 0;have z2:=nd_cell v2 2;have zc3:=nd_cell v2 3;have z4:=nd_cell v2 4;have zl:=lt_of_heap v2;clear v2 hR;obtain⟨w2,rfl⟩:∃ x,x=w':=⟨_,rfl⟩;by_cases d1:o.dO=1
     ·rw[d1] at z0;have hin:=HIN1.out w2 A B HP2.out HSM.out.1 HSM.out.2.2.1;obtain⟨hN1,hN2,_⟩:=HN.out;rw[if_pos d1] at hN1 hN2;subst hN1 hN2;clear d1
      go_wp2_with (first
       | (go_at_call 43;(with_reducible refine hin.mono ?_);rintro e w3 ⟨⟨r1,r2,rfl⟩,hP3⟩;have hin2:=HIN2.out w3 _ B hP3 HSM.out.2.1 HSM.out.2.2.2;have v3:=(HST.out w3 _ _ hP3).1;have y4:=nd_cell v3 4;have yl:=lt_of_heap v3;clear hin z0 z2 zc3 z4 zl v3 hP3)
       | (go_at_call 47;(with_reducible refine hin2.mono ?_);rintro e w4 ⟨⟨r3,r4,rfl⟩,hP4⟩;have HP4:=Lib.hid hP4;clear hin2 y4 yl hP4))
      go_roundg (n-j)
      case measure=>omega
      case rel=>exact⟨j+1,rfl,by omega,by omega,by rw[HAB.out.1,HAB.out.2];exact HBK.out _ _ _ HP4.out⟩
     ·have b1:(o.dO==1)=false:=beq_eq_false_iff_ne.2 d1;by_cases d2:o.dO=2
      ·rw[d2] at z0;have hin:=HDE1.out w2 A B HP2.out HSM.out.1 HSM.out.2.2.1;obtain⟨hN1,hN2,_⟩:=HN.out;rw[if_neg d1,if_pos d2] at hN1 hN2;subst hN1 hN2;clear d1 d2 b1
       go_wp2_with (first
        | (go_at_call 48;(with_reducible refine hin.mono ?_);rintro e w3 ⟨⟨r1,rfl⟩,hP3⟩;have hin2:=HDE2.out w3 _ B hP3 HSM.out.2.1 HSM.out.2.2.2;have v3:=(HST.out w3 _ _ hP3).1;have y4:=nd_cell v3 2;have yl:=lt_of_heap v3;clear hin z0 z2 zc3 z4 zl v3 hP3)
        | (go_at_call 49;(with_reducible refine hin2.mono ?_);rintro e w4 ⟨⟨r3,rfl⟩,hP4⟩;have HP4:=Lib.hid hP4;clear hin2 y4 yl hP4))
       go_roundg (n-j)
       case measure=>omega
       case rel=>exact⟨j+1,rfl,by omega,by omega,by rw[HAB.out.1,HAB.out.2];exact HBK.out _ _ _ HP4.out⟩
      ·have b2:(o.dO==2)=false:=beq_eq_false_iff_ne.2 d2;by_cases dk:k=1
       ·subst dk;have hk1:o.vals.length=1:=HN.out.2.2;obtain⟨u,hu⟩:∃ u,o.vals.getD 0 z3=u:=⟨_,rfl⟩;have hu0:o.vals[0]'(by omega)=u:=(by rw[<- hu,List.getD_eq_getElem?_getD,List.getElem?_eq_getElem (by omega)];rfl);obtain⟨vb,vo,rfl,qq1,qq2⟩:=InV.val (HST.out w2 A B HP2.out).2 (j:=0) (by omega);clear qq2 qq1
        have HU:Hid (∀ (w:World) (X Y:List PT),PD K' w1 w d b ts ps X Y->w.cell? ⟨vb,vo,none⟩=some (.int .i64 u.1)/\w.cell? ⟨vb,vo+1,none⟩=some (.int .i64 u.2.1)/\w.cell? ⟨vb,vo+2,none⟩=some (.string u.2.2)/\vb<w.heap.size):=Lib.hid (fun w X Y hx=>by
         obtain⟨b',o',e,q1,q2,q3,q4⟩:=InV.val (HST.out w X Y hx).2 (j:=0) (by omega);cases e;rw[hu0] at q2 q3 q4;exact⟨q2,q3,q4,q1⟩)
        have hus:u.2.2.size<=maxLen:=(by rw[<- hu0];exact HVS.out _ (List.getElem_mem _));have HUS:=Lib.hid hus;have hin:=HSE1.out w2 A B u hus HP2.out HSM.out.1 HSM.out.2.2.1;obtain⟨hN1,hN2,_⟩:=HN.out;rw[if_neg d1,if_neg d2,if_pos hk1,hu] at hN1 hN2;subst hN1 hN2;have hk0:(0:Int)<1:=(by decide);clear d1 d2 hk1 hu hu0 hus hin;go_upto_region 13 with fail;clear z0 z2 zc3 z4 zl;refine Par.wp_region_par 9 [(Value.pointer (some ⟨pt,0,none⟩)),(Value.pointer (some ⟨V,2,none⟩)),.int .i64 o.id,(Value.pointer (some ⟨V,3,none⟩)),.string o.col,(Value.pointer (some ⟨V,4,none⟩)),.slice (some ⟨vb,vo,none⟩) 1 cv,(Value.pointer (some ⟨vb,vo,none⟩)),(Value.agg #[Value.int .i64 (u.1),Value.int .i64 (u.2.1),Value.string (u.2.2)])] (fun w=>Below w2.heap.size w2 w) ?A3 ?hm3 ?hB3 ?hA3 ((below_drew w2)) ?hop3 ?hT3
        case hm3=>kernel_rfl
        case hB3=>kernel_rfl
        case hA3 =>
         simp only[Par.putA,Par.dstAt,Act.put,List.getElem?_toArray,List.getElem?_cons_zero,List.getElem?_cons_succ,Option.bind_some,List.setIfInBounds_toArray,List.set_cons_zero,List.set_cons_succ,List.getD_cons_zero,List.getD_cons_succ];rfl
        case hop3 =>
         simp only[List.take_succ_cons,List.take_zero,Par.GiveAll,and_true];and_intros<;>intro w' hR
         ·have HR:=Lib.hid hR;clear hR;simp only[Par.Gives];go_simp;all_goals exact HR.out
         ·have HR:=Lib.hid hR;have zl:=lt_of_heap (HST.out w' _ _ (HP2.out.later hR)).1;clear hR;simp only[Par.Gives];go_simp;all_goals exact HR.out
         ·have HR:=Lib.hid hR;have z1:=nd_cell (HST.out w' _ _ (HP2.out.later hR)).1 2;clear hR;simp only[Par.Gives];go_simp;all_goals exact HR.out
         ·have HR:=Lib.hid hR;have zl:=lt_of_heap (HST.out w' _ _ (HP2.out.later hR)).1;clear hR;simp only[Par.Gives];go_simp;all_goals exact HR.out
         ·have HR:=Lib.hid hR;have z1:=nd_cell (HST.out w' _ _ (HP2.out.later hR)).1 3;clear hR;simp only[Par.Gives];go_simp;all_goals exact HR.out
         ·have HR:=Lib.hid hR;have zl:=lt_of_heap (HST.out w' _ _ (HP2.out.later hR)).1;clear hR;simp only[Par.Gives];go_simp;all_goals exact HR.out
         ·have HR:=Lib.hid hR;have z1:=nd_cell (HST.out w' _ _ (HP2.out.later hR)).1 4;clear hR;simp only[Par.Gives];go_simp;all_goals exact HR.out
         ·have HR:=Lib.hid hR;clear hR;simp only[Par.Gives];go_simp;all_goals exact HR.out
         ·have HR:=Lib.hid hR;have z1:=(HU.out w' _ _ (HP2.out.later hR)).1;have z2:=(HU.out w' _ _ (HP2.out.later hR)).2.1;have z3':=(HU.out w' _ _ (HP2.out.later hR)).2.2.1;clear hR;simp only[Par.Gives];go_simp;all_goals exact HR.out
        case hT3 =>
         intro w' hR;simp only[List.drop_succ_cons,List.drop_zero];have hin:=HSE1.out w' A B u HUS.out (HP2.out.later hR) HSM.out.1 HSM.out.2.2.1;clear hR;go_upto_region 14 with (go_at_call 50;(with_reducible refine hin.mono ?_);rintro e w3 ⟨⟨r1,rfl⟩,hP3⟩;have HP3:=Lib.hid hP3;clear hin hP3);refine Par.wp_region_par 10 [(Value.pointer (some ⟨b,0,none⟩)),.int .i64 (t:Int),(Value.pointer (some ⟨V,2,none⟩)),.int .i64 o.id,(Value.pointer (some ⟨V,3,none⟩)),.string o.col,(Value.pointer (some ⟨V,4,none⟩)),.slice (some ⟨vb,vo,none⟩) 1 cv,(Value.pointer (some ⟨vb,vo,none⟩)),(Value.agg #[Value.int .i64 (u.1),Value.int .i64 (u.2.1),Value.string (u.2.2)])] (fun w=>Below w3.heap.size w3 w) ?A4 ?hm4 ?hB4 ?hA4 ((below_drew w3)) ?hop4 ?hT4
         case hm4=>kernel_rfl
         case hB4=>kernel_rfl
         case hA4 =>
          simp only[Par.putA,Par.dstAt,Act.put,List.getElem?_toArray,List.getElem?_cons_zero,List.getElem?_cons_succ,Option.bind_some,List.setIfInBounds_toArray,List.set_cons_zero,List.set_cons_succ,List.getD_cons_zero,List.getD_cons_succ];rfl
         case hop4 =>
          simp only[List.take_succ_cons,List.take_zero,Par.GiveAll,and_true];and_intros<;>intro w' hR
          ·have HR:=Lib.hid hR;clear hR;simp only[Par.Gives];go_simp;all_goals exact HR.out
          ·have HR:=Lib.hid hR;clear hR;simp only[Par.Gives];go_simp;all_goals exact HR.out
          ·have HR:=Lib.hid hR;have zl:=lt_of_heap (HST.out w' _ _ (HP3.out.later hR)).1;clear hR;simp only[Par.Gives];go_simp;all_goals exact HR.out
          ·have HR:=Lib.hid hR;have z1:=nd_cell (HST.out w' _ _ (HP3.out.later hR)).1 2;clear hR;simp only[Par.Gives];go_simp;all_goals exact HR.out
          ·have HR:=Lib.hid hR;have zl:=lt_of_heap (HST.out w' _ _ (HP3.out.later hR)).1;clear hR;simp only[Par.Gives];go_simp;all_goals exact HR.out
          ·have HR:=Lib.hid hR;have z1:=nd_cell (HST.out w' _ _ (HP3.out.later hR)).1 3;clear hR;simp only[Par.Gives];go_simp;all_goals exact HR.out
          ·have HR:=Lib.hid hR;have zl:=lt_of_heap (HST.out w' _ _ (HP3.out.later hR)).1;clear hR;simp only[Par.Gives];go_simp;all_goals exact HR.out
          ·have HR:=Lib.hid hR;have z1:=nd_cell (HST.out w' _ _ (HP3.out.later hR)).1 4;clear hR;simp only[Par.Gives];go_simp;all_goals exact HR.out
          ·have HR:=Lib.hid hR;clear hR;simp only[Par.Gives];go_simp;all_goals exact HR.out
          ·have HR:=Lib.hid hR;have z1:=(HU.out w' _ _ (HP3.out.later hR)).1;have z2:=(HU.out w' _ _ (HP3.out.later hR)).2.1;have z3':=(HU.out w' _ _ (HP3.out.later hR)).2.2.1;clear hR;simp only[Par.Gives];go_simp;all_goals exact HR.out
         case hT4 =>
          intro w' hR;simp only[List.drop_succ_cons,List.drop_zero];have hin2:=HSE2.out w' _ B u HUS.out (HP3.out.later hR) HSM.out.2.1 HSM.out.2.2.2;clear hR;go_wp2_with (go_at_call 51;(with_reducible refine hin2.mono ?_);rintro e w4 ⟨⟨r2,rfl⟩,hP4⟩;have HP4:=Lib.hid hP4;clear hin2 hP4);go_roundg (n-j)
          case measure=>omega
          case rel=>exact⟨j+1,rfl,by omega,by omega,by rw[HAB.out.1,HAB.out.2];exact HBK.out _ _ _ HP4.out⟩
       ·have b3:((k:Int)==1)=false:=beq_eq_false_iff_ne.2 (by omega);obtain⟨hN1,hN2,hk⟩:=HN.out;rw[if_neg d1,if_neg d2,if_neg (by omega)] at hN1 hN2;subst hN1 hN2;have HPe:=Lib.hid (HBK.out _ _ _ HP2.out);clear d1 d2 dk hk;go_wp2_with fail;go_roundg (n-j)
        case measure=>omega
        case rel=>exact⟨j+1,rfl,by omega,by omega,by rw[HAB.out.1,HAB.out.2];exact HPe.out⟩
  ·obtain rfl:j=n:=(by omega);have e1:ops.take j=ops:=(by rw[List.take_of_length_le (by rw[HF.out.2.2.2.2.2.2.2.2];exact Nat.le_refl _)]);rw[e1] at hPD;have HPD:=Lib.hid hPD;clear hPD e1;go_wp2_with fail
   go_end0
   exact⟨rfl,HPD.out⟩
theorem opok_cut {u:OpX} (h:F64 u.id):OpOk (cutOp u):=by
 refine⟨h,?_,?_,fun x hx=>?_,?_⟩
 ·exact Nat.le_trans (cutB_le 20 u.tbl) (by unfold maxLen;omega)
 ·exact Nat.le_trans (cutB_le 20 u.col) (by unfold maxLen;omega)
 ·have hx:x∈(cutR 7 u.vals):=hx;unfold cutR at hx;have h1:=List.mem_of_mem_take hx;obtain⟨y,_,rfl⟩:=List.mem_map.1 h1;exact Nat.le_trans (cutB_le 20 y.2.2) (by unfold maxLen;omega)
 ·exact Nat.le_trans (cutR_len 7 u.vals) (by omega)
theorem ops_ok {L:List OpX} (h:∀ o∈L,F64 o.id) (M:Nat):∀ o∈(L.take M).map cutOp,OpOk o:=fun o ho=>by
 obtain⟨u,hu,rfl⟩:=List.mem_map.1 ho;exact opok_cut (h u (List.mem_of_mem_take hu))
theorem opsR_later {W w:World} {p:Option Addr} {L:List OpX} (h:OpsR W p L) (hb:Below W.heap.size W w):OpsR w p L:=fun j hj=>by
 obtain⟨b,off,vv,e,hlt,c0,c1,c2,c3,c4,hv,h1,h2,h3⟩:=h j hj;have hk:=hb.block b hlt;have hc:∀ (o:Nat) (v:Value),W.cell? ⟨b,o,none⟩=some v->w.cell? ⟨b,o,none⟩=some v:=(fun o v hv=>(World.cell?_of_block (a:=⟨b,o,none⟩) hk).trans hv);exact⟨b,off,vv,e,Nat.lt_of_lt_of_le hlt hb.size,hc _ _ c0,hc _ _ c1,hc _ _ c2,hc _ _ c3,hc _ _ c4,(hv.later hb).mono (fun q _ hq=>Nat.lt_of_lt_of_le hq hb.size),h1,h2,h3⟩
abbrev Lz:List PT:=List.replicate 4 (0,[])
theorem Lz_sm:∀ x∈Lz,SmP 0 x:=fun x hx=>by
 obtain rfl:=List.eq_of_mem_replicate hx;exact⟨Nat.le_refl _,Nat.le_refl _⟩
theorem star_c:∀ t∈pre 4,0<t.cols.length/\t.cols.length<=1000:=fun t ht=>⟨(star_cols4 t ht).1,by have:=(star_cols4 t ht).2;omega⟩
theorem fill_star {W w w1:World} {d b:Nat} {ps:List Nat} {tv:Value} {L:List OpX} {M:Nat} (h:PD (fun q=>q<W.heap.size) W w d b (pre 4) ps Lz Lz) (hb:Below w.heap.size w w1) (ho:OpsO w1 w.heap.size tv ((L.take M).map cutOp)) (hL:∀ o∈L,F64 o.id) (hM:M<=60) :
  Calls Tryz.prog 15 #[(Value.pointer (some ⟨d,0,none⟩)),(Value.pointer (some ⟨b,0,none⟩)),tv] w1 fun e w'=>e=.returned (.tuple #[])/\PD (fun q=>q<W.heap.size) W w' d b (pre 4) ps (fillP (pre 4) Lz ((L.take M).map cutOp)) (fillP (pre 4) Lz ((L.take M).map cutOp)):=by
 have hw:=h.with hb;refine (fill_any hw ho (fun q h1 h2=>.inr ⟨h1,h2⟩) (pre_inv 4 (by decide)) (pre_few 4) star_short star_c Lz_sm Lz_sm (by rw[List.length_map,List.length_take];omega) (ops_ok hL M)).mono ?_;rintro e w' ⟨rfl,hP⟩;exact⟨rfl,(h.later hb).back hP (fun q hq=>.inl hq)⟩
theorem fill_small {L:List OpX} {M:Nat} (hM:M<=60):∀ x∈fillP (pre 4) Lz ((L.take M).map cutOp),SmP 60 x:=fun x hx=>by
 have:=fillP_sm (ts:=pre 4) (l:=(L.take M).map cutOp) Lz_sm x hx
 rw[List.length_map,List.length_take] at this;exact this.mono (by omega)
structure Rd2 (W:World) (d b:Nat) (ts:List T) (L:List PT):Prop where
 dd:∃ st O,Dd W d ts st O/\st.map (·.2)=L
 nn:∃ tt i O,DbN W b ts tt i O/\tt.map keyN=L
theorem Rd2.later {W w:World} {d b:Nat} {ts:List T} {L:List PT} (h:Rd2 W d b ts L) (hb:Below W.heap.size W w):Rd2 w d b ts L:=by
 obtain⟨⟨st,O,h1,h2⟩,⟨tt,i,O',h3,h4⟩⟩:=h;exact⟨⟨st,O,h1.later hb,h2⟩,⟨tt,i,O',h3.later hb,h4⟩⟩
theorem PD.rd2 {K:Nat->Prop} {W0 w:World} {d b:Nat} {ts:List T} {ps:List Nat} {L:List PT} (h:PD K W0 w d b ts ps L L):Rd2 w d b ts L:=by
 obtain⟨st,O,h1,_,h2⟩:=h.dd;obtain⟨tt,i,O',h3,h4⟩:=h.dbn;exact⟨⟨st,O,h1,h2⟩,⟨tt,i,O',h3,h4⟩⟩
theorem rowsN_map {tt:List RT} {L:List PT} (h:tt.map keyN=L):rowsN tt=rowsL L:=by
 subst h;show tt.map _=(tt.map _).map _;rw[List.map_map];rfl
section
variable {W:World} {d b:Nat} {L:List PT} {m:Nat}
theorem small_A {tt:List RT} (h:tt.map keyN=L) (hs:∀ x∈L,SmP m x) (hm:m<=390):∀ y∈tt,y.A.length<=100000:=fun y hy=>by
 have h1:keyN y∈L:=(by rw[<- h];exact List.mem_map_of_mem hy);obtain⟨a1,a2⟩:=hs _ h1;have a1:y.nx<=m:=a1;have a2:y.A.length<=y.nx:=a2;omega
theorem Rd2.valueD (h:Rd2 W d b (pre 4) L) {v:Value} (x:ByteArray) {id:Int} {p:List ByteArray} (hid:F64 id) (hp:Wd W v p) :
  Calls Tryz.prog 20 #[(Value.pointer (some ⟨d,0,none⟩)),.string x,.int .i64 id,v] W fun e w'=>e=.returned (.tuple #[(Value.agg #[Value.int .i64 ((valueP (pre 4) (rowsL L) x id p).1.1),Value.int .i64 ((valueP (pre 4) (rowsL L) x id p).1.2.1),Value.string ((valueP (pre 4) (rowsL L) x id p).1.2.2)]),.bool (valueP (pre 4) (rowsL L) x id p).2])/\Below W.heap.size W w':=by
 obtain⟨⟨st,O,h1,h2⟩,_⟩:=h;rw[<- rowsOf_map h2];exact dvalue_any h1 (pre_inv 4 (by decide)) (pre_few 4) star_short x hid hp
theorem Rd2.valueN (h:Rd2 W d b (pre 4) L) (hs:∀ x∈L,SmP m x) (hm:m<=390) {v:Value} (x:ByteArray) (id:Int) {p:List ByteArray} (hp:Wd W v p) :
  Calls Tryz.prog 21 #[(Value.pointer (some ⟨b,0,none⟩)),.string x,.int .i64 id,v] W fun e w'=>e=.returned (.tuple #[(Value.agg #[Value.int .i64 ((valueP (pre 4) (rowsL L) x id p).1.1),Value.int .i64 ((valueP (pre 4) (rowsL L) x id p).1.2.1),Value.string ((valueP (pre 4) (rowsL L) x id p).1.2.2)]),.bool (valueP (pre 4) (rowsL L) x id p).2])/\Below W.heap.size W w':=by
 obtain⟨_,⟨tt,i,O',h3,h4⟩⟩:=h;rw[<- rowsN_map h4];exact nvalue_any h3 (pre_inv 4 (by decide)) (fun t ht=>(star_c t ht).2) (small_A h4 hs hm) x id hp
end
