import Derived.Test.YtgbkmjnnlkgpnaaGreatZe35
import Derived.Test.YtgbkmjnnlkgpnaaGreatZe26
set_option maxHeartbeats 8000000
set_option maxRecDepth 100000
namespace Go.Proofs.YtgbkmjnnlkgpnaaGreat
open Go Go.RowKit Go.Proofs Co Co.S
structure OpX where
 dO:Int
 tbl:ByteArray
 id:Int
 col:ByteArray
 vals:List T3
def opC (u:OpX) (v:Value):List Value:=[.int .i64 u.dO,.string u.tbl,.int .i64 u.id,.string u.col,v]
def cO (L:List OpX) (vs:List Value):List Value:=(L.zip vs).flatMap fun p=>opC p.1 p.2
def eN (u:OpX):OpX:=⟨u.dO,iB 20 u.tbl,u.id,iB 20 u.col,qV 7 u.vals⟩
def aDC (W:World) (p:Option Addr) (L:List OpX):Prop:=∀ j (hj:j<L.length),∃ (b off:Nat) (vv:Value),p=some ⟨b,off,none⟩/\b<W.heap.size/\W.cell? ⟨b,off+j*5,none⟩=some (.int .i64 L[j].dO)/\W.cell? ⟨b,off+j*5+1,none⟩=some (.string L[j].tbl)/\W.cell? ⟨b,off+j*5+2,none⟩=some (.int .i64 L[j].id)/\W.cell? ⟨b,off+j*5+3,none⟩=some (.string L[j].col)/\W.cell? ⟨b,off+j*5+4,none⟩=some vv /\
 InV (fun q=>q<W.heap.size) W vv L[j].vals/\L[j].tbl.size<=maxLen/\L[j].col.size<=maxLen/\∀ x∈L[j].vals,x.2.2.size<=maxLen
def OpsO (w:World) (base:Nat) (tv:Value) (L:List OpX):Prop:=∃ sv:List Value,sv.length=L.length/\HRow w base 47 5 tv L.length (cO L sv)/\∀ j (hj:j<L.length),∃ v,sv[j]?=some v/\HRow w base 42 3 v L[j].vals.length (cells3 L[j].vals)
theorem vW (L:List OpX) (vs:List Value) (u:OpX) (v:Value) (h:vs.length=L.length):cO (L++[u]) (vs++[v])=cO L vs++opC u v:=by
 unfold cO;rw[List.zip_append h.symm,List.flatMap_append]
 simp
theorem aAF (u:OpX) (v:Value) (h:v.oneCell'=true):∀ x∈opC u v,x.oneCell'=true:=by
 intro x hx;simp only[opC,List.mem_cons,List.not_mem_nil,or_false] at hx;rcases hx with rfl|rfl|rfl|rfl|rfl
 ·rfl
 ·rfl
 ·rfl
 ·rfl
 exact h
theorem aDD:(Tryz.prog.info? 47).map (fun i=>(i.zero,i.size,i.bytes))=some (some (.agg #[.int .i64 0,.string ⟨#[]⟩,.int .i64 0,.string ⟨#[]⟩,.slice none 0 0]),5,72):=by kernel_rfl
theorem OpsO.nil {w:World} {base:Nat}:OpsO w base (.slice none 0 0) []:=⟨[],rfl,HRow.nil,fun _ hj=>absurd hj (Nat.not_lt_zero _)⟩
theorem OpsO.later {w w':World} {base:Nat} {tv:Value} {L:List OpX} (h:OpsO w base tv L) (hb:Below w.heap.size w w'):OpsO w' base tv L:=by
 obtain⟨sv,h1,h2,h3⟩:=h;refine⟨sv,h1,h2.later hb,fun j hj=>?_⟩;obtain⟨v,e,r⟩:=h3 j hj;exact⟨v,e,r.later hb⟩
structure OJ (W0:World) (base:Nat) (E:Nat->Value) (rv:Value) (n:Nat) (xs:List Value) (u:OpX) (l:Nat->Bool) (vs:Nat->Value) (w:World):Prop where
 gb:W0.grownBy w rv.ownBlock
 f0:l 16=false->Below W0.heap.size W0 w
 ev:∀ j,j<13->l j=true->vs j=E j
 f13:l 13=true->∃ p c,vs 13=.slice p u.vals.length c/\HRow w base 42 3 (vs 13) u.vals.length (cells3 u.vals)
 f14:l 14=true->vs 14=.agg #[.int .i64 u.dO,.string u.tbl,.int .i64 u.id,.string u.col,vs 13]
 f15:l 15=true->l 16=false->∃ y,w=y.alloc (.cells #[.int .i64 u.dO,.string u.tbl,.int .i64 u.id,.string u.col,vs 13] 47)/\vs 15=.slice (some ⟨y.heap.size,0,none⟩) 1 1/\Below W0.heap.size W0 y/\∀ q,(vs 13).ownBlock=some q->q<y.heap.size
 f16:l 16=true->∃ g cap,vs 16=.slice (some ⟨g,0,none⟩) (n+1) cap/\HRow w base 47 5 (.slice (some ⟨g,0,none⟩) (n+1) cap) (n+1) (xs++opC u (vs 13))/\(rv.ownBlock=some g∨W0.heap.size<=g)
section
open Par
variable {W0 w w':World} {base:Nat} {E:Nat->Value} {rv:Value} {n:Nat} {xs:List Value} {u:OpX} {l:Nat->Bool} {vs:Nat->Value}
theorem OJ.up (h:OJ W0 base E rv n xs u l vs w) (i:Nat) (hi:i<13):OJ W0 base E rv n xs u (upB l i) (upV vs i (E i)) w:=by
 have k:∀ j,13<=j->upB l i j=l j/\upV vs i (E i) j=vs j:=(fun j hj=>⟨aG (by omega),aH (by omega)⟩);refine⟨h.gb,fun hl=>h.f0 ((k 16 (by omega)).1▸hl),fun j hj hl=>?_,fun hl=>?_,fun hl=>?_,fun h1 h2=>?_,fun hl=>?_⟩
 ·by_cases e:j=i
  ·subst e;rw[bB]
  rw[aH e];rw[aG e] at hl;exact h.ev j hj hl
 ·rw[(k 13 (by omega)).1] at hl;rw[(k 13 (by omega)).2];exact h.f13 hl
 ·rw[(k 14 (by omega)).1] at hl;rw[(k 14 (by omega)).2,(k 13 (by omega)).2];exact h.f14 hl
 ·rw[(k 15 (by omega)).1] at h1;rw[(k 16 (by omega)).1] at h2;rw[(k 15 (by omega)).2,(k 13 (by omega)).2];exact h.f15 h1 h2
 rw[(k 16 (by omega)).1] at hl;rw[(k 16 (by omega)).2,(k 13 (by omega)).2];exact h.f16 hl
theorem OJ.s13 (h:OJ W0 base E rv n xs u l vs w) (hbase:base<=W0.heap.size) (h14:l 14=false) (h15:l 15=false) (h16:l 16=false) {p:Option Addr} {c:Nat} (hr:HRow w' w.heap.size 42 3 (.slice p u.vals.length c) u.vals.length (cells3 u.vals)) (hb:Below w.heap.size w w') :
  OJ W0 base E rv n xs u (upB l 13) (upV vs 13 (.slice p u.vals.length c)) w':=by
 have hb2:=aB (h.f0 h16) hb;refine⟨gS hb2,fun _=>hb2,fun j hj hl=>?_,fun _=>⟨p,c,bB,by rw[bB];exact HRow.mono hr (Nat.le_trans hbase (h.f0 h16).size)⟩,fun hl=>?_,fun hl=>?_,fun hl=>?_⟩
 ·rw[aH (by omega)];rw[aG (by omega)] at hl;exact h.ev j hj hl
 ·rw[aG (by decide),h14] at hl;cases hl
 ·rw[aG (by decide),h15] at hl;cases hl
 rw[aG (by decide),h16] at hl;cases hl
theorem OJ.s14 (h:OJ W0 base E rv n xs u l vs w) (h15:l 15=false) (h16:l 16=false):OJ W0 base E rv n xs u (upB l 14) (upV vs 14 (.agg #[.int .i64 u.dO,.string u.tbl,.int .i64 u.id,.string u.col,vs 13])) w:=by
 refine⟨h.gb,fun _=>h.f0 h16,fun j hj hl=>?_,fun hl=>?_,fun _=>?_,fun hl=>?_,fun hl=>?_⟩
 ·rw[aH (by omega)];rw[aG (by omega)] at hl;exact h.ev j hj hl
 ·rw[aG (by decide)] at hl;rw[aH (by decide)];exact h.f13 hl
 ·rw[bB,aH (by decide)]
 ·rw[aG (by decide),h15] at hl;cases hl
 rw[aG (by decide),h16] at hl;cases hl
theorem OJ.s15 (h:OJ W0 base E rv n xs u l vs w) (h13:l 13=true) (h16:l 16=false):OJ W0 base E rv n xs u (upB l 15) (upV vs 15 (.slice (some ⟨w.heap.size,0,none⟩) 1 1)) (w.alloc (.cells #[.int .i64 u.dO,.string u.tbl,.int .i64 u.id,.string u.col,vs 13] 47)):=by
 have hb2:=aB (h.f0 h16) (aC w (.cells #[.int .i64 u.dO,.string u.tbl,.int .i64 u.id,.string u.col,vs 13] 47));obtain⟨p,c,e,h1⟩:=h.f13 h13;refine⟨gS hb2,fun _=>hb2,fun j hj hl=>?_,fun hl=>?_,fun hl=>?_,fun _ _=>⟨w,?_,bB,h.f0 h16,fun q hq=>?_⟩,fun hl=>?_⟩
 ·rw[aH (by omega)];rw[aG (by omega)] at hl;exact h.ev j hj hl
 ·rw[aH (by decide)];exact⟨p,c,e,h1.later (aC _ _)⟩
 ·rw[aG (by decide)] at hl;rw[aH (by decide),aH (by decide)];exact h.f14 hl
 ·rw[aH (by decide)]
 ·rw[aH (by decide)] at hq;exact (HRow.lt h1 q hq).2
 rw[aG (by decide),h16] at hl;cases hl
theorem OJ.s16 (h:OJ W0 base E rv n xs u l vs w) (h13:l 13=true) (hW:HRow W0 base 47 5 rv n xs) {y:World} {v:Value} (h15:w=y.alloc (.cells #[.int .i64 u.dO,.string u.tbl,.int .i64 u.id,.string u.col,vs 13] 47)) (hy:Below W0.heap.size W0 y) (h13y:∀ q,(vs 13).ownBlock=some q->q<y.heap.size) {g cap:Nat}
  (hv:v=.slice (some ⟨g,0,none⟩) (n+1) cap) (hr:HRow w' base 47 5 (.slice (some ⟨g,0,none⟩) (n+1) cap) (n+1) (xs++opC u (vs 13))) (hg:y.grownBy w' rv.ownBlock) (ho:rv.ownBlock=some g∨y.heap.size<=g) :
  OJ W0 base E rv n xs u (upB l 16) (upV vs 16 v) w':=by
 obtain⟨p,c,e,h1⟩:=h.f13 h13;have hgb:W0.grownBy w' rv.ownBlock:=⟨hg.os.trans hy.os,hg.tape.trans hy.tape,hg.output.trans hy.output,Nat.le_trans hy.size hg.size,fun q hq hn=>(hg.block q (Nat.lt_of_lt_of_le hq hy.size) hn).trans (hy.block q hq)⟩;refine⟨hgb,fun hl=>?_,fun j hj hl=>?_,fun hl=>?_,fun hl=>?_,fun _ hl=>?_,fun _=>⟨g,cap,bB.trans hv,?_,ho.imp (fun h=>h) (fun h=>Nat.le_trans hy.size h)⟩⟩
 ·rw[dJ] at hl;cases hl
 ·rw[aH (by omega)];rw[aG (by omega)] at hl;exact h.ev j hj hl
 ·rw[aH (by decide)];refine⟨p,c,e,h1.of (fun k hk=>?_)⟩;have hlt:=h13y k hk;rw[hg.block k hlt (fun e2=>?_),h15]
  ·exact (aC y _).block k hlt |>.symm
  obtain⟨_,c1,q1⟩:=h1.block k hk;obtain⟨_,c2,q2⟩:=hW.block k e2.symm;rw[h15,(aC y _).block k hlt,hy.block k (HRow.lt hW k e2.symm).2,q2] at q1;cases q1
 ·rw[aG (by decide)] at hl;rw[aH (by decide),aH (by decide)];exact h.f14 hl
 ·rw[dJ] at hl;cases hl
 rw[aH (by decide)];exact hr
end
theorem aGJ (y:World) (base:Nat) {v:Value} {m:Nat} {xs:List Value} (hr:HRow y base 47 5 v m xs) (hm:m+1<=1000000) (hb:base<=y.heap.size) (u:OpX) (vv:Value) (h1:vv.oneCell'=true) :
  ∃ g cap w',(Builtin.append_ #[22,22] 22 #[v,.slice (some ⟨y.heap.size,0,none⟩) 1 1]).run Tryz.prog (y.alloc (.cells #[.int .i64 u.dO,.string u.tbl,.int .i64 u.id,.string u.col,vv] 47))=.ok (.slice (some ⟨g,0,none⟩) (m+1) cap) w' /\
   HRow w' base 47 5 (.slice (some ⟨g,0,none⟩) (m+1) cap) (m+1) (xs++opC u vv)/\y.grownBy w' v.ownBlock/\(v.ownBlock=some g∨y.heap.size<=g) :=
 Go.Proofs.YtgbkmjnnlkgpnaaGreat.app_one Tryz.underlying22 aDD rfl (by decide) (by decide) y base hr hm hb #[.int .i64 u.dO,.string u.tbl,.int .i64 u.id,.string u.col,vv] rfl (fun x hx=>aAF u vv h1 x (by simpa [opC] using hx))
theorem aFm {W:World} {p:Option Addr} {c:Nat} {L:List OpX} (M:Nat) (hM:M<=1000) (h:aDC W p L) (hL:L.length<=maxLen) :
  Calls Tryz.prog 14 #[.slice p L.length c,.int .i64 (M:Int)] W fun e w'=>∃ tv,e=.returned tv/\OpsO w' W.heap.size tv ((L.take M).map eN)/\Below W.heap.size W w':=by
 obtain⟨n,hn⟩:∃ n,L.length=n:=⟨_,rfl⟩;have hn':(n:Int)<=9223372036854775807:=(by unfold maxLen at hL;omega);have HN:=qAq hn;have HI:=qAq h;rw[hn];clear h hL hn;go_enter Tryz.func14,Tryz.ntmps14;go_wp2_with fail;go_loopg [5,6] (M+1) (fun gh tv iv w=>∃ (k:Nat),k<=n/\k<=M/\M+1<=k+gh/\iv=.int .i64 (k:Int)/\OpsO w W.heap.size tv ((L.take k).map eN)/\Below W.heap.size W w)
 case atStart=>exact⟨0,Nat.zero_le _,Nat.zero_le _,by omega,rfl,OpsO.nil,Below.refl _ _⟩
 obtain⟨k,hk,hkM,hg,rfl,hr,hB⟩:=hrel;by_cases hlt:k<n/\k<M
 ·obtain⟨h1,h2⟩:=hlt;have hkl:k<L.length:=(by rw[HN.out];exact h1);have hdM:(k:Int)<(M:Int):=(by omega);have hdn:(k:Int)<(n:Int):=(by omega);have hlk:((L.take k).map eN).length=k:=(by rw[List.length_map,List.length_take,HN.out];omega);obtain⟨Lk,hLk⟩:∃ l,(L.take k).map eN=l:=⟨_,rfl⟩;rw[hLk] at hr hlk;obtain⟨sv,hsv,hrow,hvs⟩:=hr;rw[hlk] at hsv hrow;obtain⟨pt,ct,rfl,_,_⟩:=hrow.isslice;obtain⟨b1,o1,vv,rfl,hb1,y0,y1,y2,y3,y4,hV,z1,z2,z3⟩:=HI.out k hkl;have tr0:∀ {a:Addr} {v:Value},W.cell? a=some v->wr.cell? a=some v:=(fun {a v} h=>(World.cell?_of_block (w:=W) (hB.block _ (World.block_lt_of_cell? _ _ h))).trans h);replace y0:=tr0 y0;replace y1:=tr0 y1;replace y2:=tr0 y2;replace y3:=tr0 y3;replace y4:=tr0 y4;replace hV:=hV.later hB;obtain⟨u,hu⟩:∃ u,L[k]=u:=⟨_,rfl⟩;rw[hu] at y0 y1 y2 y3 hV z1 z2 z3;obtain⟨pv,cv,rfl,_,_⟩:=hV.slice;have hbA:=aC wr (.cells #[.int .i64 u.dO,.string u.tbl,.int .i64 u.id,.string u.col,.slice pv u.vals.length cv] 47);have kA:=qOq wr (.cells #[.int .i64 u.dO,.string u.tbl,.int .i64 u.id,.string u.col,.slice pv u.vals.length cv] 47);have hrlt:∀ q,(Value.slice pt k ct).ownBlock=some q->q<wr.heap.size:=(fun q hq=>(HRow.lt hrow q hq).2);obtain⟨w1,hw1⟩:∃ w1,wr.alloc (.cells #[.int .i64 u.dO,.string u.tbl,.int .i64 u.id,.string u.col,.slice pv u.vals.length cv] 47)=w1:=⟨_,rfl⟩;have hs1:wr.heap.size<w1.heap.size:=(by rw[<- hw1,qPq];omega);obtain⟨tb,hT⟩:∃ B,wr.heap.size=B:=⟨_,rfl⟩;rw[hw1] at hbA kA;have hB1:Below W.heap.size W w1:=aB hB hbA;have HB1:=qAq hB1;have HV:=qAq (qBq (hV.later hbA) (qBq z1 (qBq z2 z3)))
  have hvs1:∀ j (hj:j<Lk.length),∃ v,sv[j]?=some v/\HRow w1 W.heap.size 42 3 v Lk[j].vals.length (cells3 Lk[j].vals):=fun j hj=>by
   obtain⟨v,e,r⟩:=hvs j hj;exact⟨v,e,r.later hbA⟩
  have HRow1:=qAq (qBq (hrow.later hbA) (qBq hsv (qBq hlk (qBq hu (qBq hLk hvs1)))))
  have HX:Hid (∀ w,w1.grownBy w (Value.slice pt k ct).ownBlock->w.cell? ⟨tb,0,none⟩=some (.int .i64 u.dO)/\w.cell? ⟨tb,1,none⟩=some (.string u.tbl)/\w.cell? ⟨tb,2,none⟩=some (.int .i64 u.id)/\w.cell? ⟨tb,3,none⟩=some (.string u.col)/\w.cell? ⟨tb,4,none⟩=some (.slice pv u.vals.length cv)/\tb<w.heap.size):=qAq (fun w hg=>by
   have hblk:=(hg.block tb (by omega) (fun e=>by have:=hrlt tb e.symm;omega)).trans (hT▸kA);exact⟨aA hblk 0,aA hblk 1,aA hblk 2,aA hblk 3,aA hblk 4,by have:=hg.size;omega⟩)
  have hcut:∀ (s:ByteArray) (w:World),s.size<=maxLen->Calls Tryz.prog 41 #[.string s,.int .i64 20] w fun e w'=>e=.returned (.string (iB 20 s))/\w=w':=fun s w hs=>aBd s 20 w hs (by omega) (by omega)
  have HC:=qAq hcut;have HW:=qAq (qBq hw1 (qBq hT hs1));clear hB hsv hrow hvs hvs1 hu hLk hV z1 z2 z3 hbA kA hrlt hw1 hs1 hT hB1 hlk tr0 hcut;go_upto_region 6 with fail;rw[HW.out.1,HW.out.2.1];clear y0 y1 y2 y3 y4;refine Par.wp_region_par4 17 (OJ w1 W.heap.size (fun idx=>[.slice pt k ct,(Value.pointer (some ⟨tb,0,none⟩)),(Value.int .i64 (u.dO)),(Value.pointer (some ⟨tb,1,none⟩)),.string u.tbl,.string (iB 20 u.tbl),(Value.pointer (some ⟨tb,2,none⟩)),(Value.int .i64 (u.id)),(Value.pointer (some ⟨tb,3,none⟩)),.string u.col,.string (iB 20 u.col),(Value.pointer (some ⟨tb,4,none⟩)),.slice pv u.vals.length cv].getD idx undef) (.slice pt k ct) k (cO Lk sv) (eN u)) ?AA ?hmA ?hBA ?hAA ?hJA ?hopA ?hTA
  case hmA=>kernel_rfl
  case hBA=>kernel_rfl
  case hAA =>
   intro vs;simp only[Par.putA,Par.dstAt,Act.put,qDq,qEq,qFq,qLq,qGq,qHq,qIq];rfl
  case hJA =>
   intro vs;have hd:=aE w1;exact⟨gS hd,fun _=>hd,fun _ _ h=>(by cases h),fun h=>(by cases h),fun h=>(by cases h),fun h=>(by cases h),fun h=>(by cases h)⟩
  case hopA =>
   simp only[qMq,List.take_zero,Par.GiveAllK,and_true];and_intros<;>intro l vs w hJ hl hd hcl
   ·have HJ:=qAq hJ;obtain⟨x0,x1,x2,x3,x4,xl⟩:=HX.out w hJ.gb;clear hJ hd hcl;simp only[Par.GivesW];go_simp;all_goals exact HJ.out.up 0 (by decide)
   ·have HJ:=qAq hJ;obtain⟨x0,x1,x2,x3,x4,xl⟩:=HX.out w hJ.gb;clear hJ hd hcl;simp only[Par.GivesW];go_simp;all_goals exact HJ.out.up 1 (by decide)
   ·have HJ:=qAq hJ;obtain⟨x0,x1,x2,x3,x4,xl⟩:=HX.out w hJ.gb;have d1:vs 1=(Value.pointer (some ⟨tb,0,none⟩)):=hJ.ev 1 (by decide) (hd 1 (by kernel_rfl));clear hJ hd hcl;simp only[Par.GivesW,d1];go_simp;all_goals exact HJ.out.up 2 (by decide)
   ·have HJ:=qAq hJ;obtain⟨x0,x1,x2,x3,x4,xl⟩:=HX.out w hJ.gb;clear hJ hd hcl;simp only[Par.GivesW];go_simp;all_goals exact HJ.out.up 3 (by decide)
   ·have HJ:=qAq hJ;obtain⟨x0,x1,x2,x3,x4,xl⟩:=HX.out w hJ.gb;have d3:vs 3=(Value.pointer (some ⟨tb,1,none⟩)):=hJ.ev 3 (by decide) (hd 3 (by kernel_rfl));clear hJ hd hcl;simp only[Par.GivesW,d3];go_simp;all_goals exact HJ.out.up 4 (by decide)
   ·have HJ:=qAq hJ;obtain⟨x0,x1,x2,x3,x4,xl⟩:=HX.out w hJ.gb;have d4:vs 4=.string u.tbl:=hJ.ev 4 (by decide) (hd 4 (by kernel_rfl));have hc:=HC.out u.tbl w HV.out.2.1;clear hJ hd hcl;simp only[Par.GivesW,d4];go_simp;refine hc.mono ?_;rintro e y ⟨rfl,rfl⟩;exact⟨_,rfl,HJ.out.up 5 (by decide)⟩
   ·have HJ:=qAq hJ;obtain⟨x0,x1,x2,x3,x4,xl⟩:=HX.out w hJ.gb;clear hJ hd hcl;simp only[Par.GivesW];go_simp;all_goals exact HJ.out.up 6 (by decide)
   ·have HJ:=qAq hJ;obtain⟨x0,x1,x2,x3,x4,xl⟩:=HX.out w hJ.gb;have d6:vs 6=(Value.pointer (some ⟨tb,2,none⟩)):=hJ.ev 6 (by decide) (hd 6 (by kernel_rfl));clear hJ hd hcl;simp only[Par.GivesW,d6];go_simp;all_goals exact HJ.out.up 7 (by decide)
   ·have HJ:=qAq hJ;obtain⟨x0,x1,x2,x3,x4,xl⟩:=HX.out w hJ.gb;clear hJ hd hcl;simp only[Par.GivesW];go_simp;all_goals exact HJ.out.up 8 (by decide)
   ·have HJ:=qAq hJ;obtain⟨x0,x1,x2,x3,x4,xl⟩:=HX.out w hJ.gb;have d8:vs 8=(Value.pointer (some ⟨tb,3,none⟩)):=hJ.ev 8 (by decide) (hd 8 (by kernel_rfl));clear hJ hd hcl;simp only[Par.GivesW,d8];go_simp;all_goals exact HJ.out.up 9 (by decide)
   ·have HJ:=qAq hJ;obtain⟨x0,x1,x2,x3,x4,xl⟩:=HX.out w hJ.gb;have d9:vs 9=.string u.col:=hJ.ev 9 (by decide) (hd 9 (by kernel_rfl));have hc:=HC.out u.col w HV.out.2.2.1;clear hJ hd hcl;simp only[Par.GivesW,d9];go_simp;refine hc.mono ?_;rintro e y ⟨rfl,rfl⟩;exact⟨_,rfl,HJ.out.up 10 (by decide)⟩
   ·have HJ:=qAq hJ;obtain⟨x0,x1,x2,x3,x4,xl⟩:=HX.out w hJ.gb;clear hJ hd hcl;simp only[Par.GivesW];go_simp;all_goals exact HJ.out.up 11 (by decide)
   ·have HJ:=qAq hJ;obtain⟨x0,x1,x2,x3,x4,xl⟩:=HX.out w hJ.gb;have d11:vs 11=(Value.pointer (some ⟨tb,4,none⟩)):=hJ.ev 11 (by decide) (hd 11 (by kernel_rfl));clear hJ hd hcl;simp only[Par.GivesW,d11];go_simp;all_goals exact HJ.out.up 12 (by decide)
   ·have HJ:=qAq hJ;have h14:l 14=false:=(by cases h:l 14 with|false=>rfl|true=>exact absurd (hcl 14 13 (by kernel_rfl) h) (by simp[hl]));have h15:l 15=false:=(by cases h:l 15 with|false=>rfl|true=>exact absurd (hcl 15 14 (by kernel_rfl) h) (by simp[h14]));have h16:l 16=false:=(by cases h:l 16 with|false=>rfl|true=>exact absurd (hcl 16 15 (by kernel_rfl) h) (by simp[h15]));have d12:vs 12=.slice pv u.vals.length cv:=hJ.ev 12 (by decide) (hd 12 (by kernel_rfl));have hc:=aDw (N:=7) (by decide) (HV.out.1.later (hJ.f0 h16)) HV.out.2.2.2;clear hJ hd hcl;simp only[Par.GivesW,d12];go_simp;refine hc.mono ?_;rintro e y ⟨v',rfl,hr2,hb2⟩;obtain⟨p3,c3,rfl,_,_⟩:=hr2.isslice;exact⟨_,rfl,HJ.out.s13 HB1.out.size h14 h15 h16 hr2 hb2⟩
   ·have h15:l 15=false:=(by cases h:l 15 with|false=>rfl|true=>exact absurd (hcl 15 14 (by kernel_rfl) h) (by simp[hl]));have h16:l 16=false:=(by cases h:l 16 with|false=>rfl|true=>exact absurd (hcl 16 15 (by kernel_rfl) h) (by simp[h15]));have d2:vs 2=(Value.int .i64 (u.dO)):=hJ.ev 2 (by decide) (hd 2 (by kernel_rfl));have d5:vs 5=.string (iB 20 u.tbl):=hJ.ev 5 (by decide) (hd 5 (by kernel_rfl));have d7:vs 7=(Value.int .i64 (u.id)):=hJ.ev 7 (by decide) (hd 7 (by kernel_rfl));have d10:vs 10=.string (iB 20 u.col):=hJ.ev 10 (by decide) (hd 10 (by kernel_rfl));obtain⟨p3,c3,e13,_⟩:=hJ.f13 (hd 13 (by kernel_rfl));have HJ:=qAq (hJ.s14 h15 h16);rw[e13] at HJ;clear hJ hd hcl;simp only[Par.GivesW,d2,d5,d7,d10,e13];go_simp;all_goals exact HJ.out
   ·have h16:l 16=false:=(by cases h:l 16 with|false=>rfl|true=>exact absurd (hcl 16 15 (by kernel_rfl) h) (by simp[hl]));have h14:=hd 14 (by kernel_rfl);have d14:=hJ.f14 h14;have h13:=hcl 14 13 (by kernel_rfl) h14;obtain⟨p3,c3,e13,_⟩:=hJ.f13 h13;have HJ:=qAq (hJ.s15 h13 h16);rw[e13] at HJ d14;clear hJ hd hcl;simp only[Par.GivesW,d14];go_simp;all_goals exact HJ.out
   have h15:=hd 15 (by kernel_rfl);have h13:=hcl 14 13 (by kernel_rfl) (hcl 15 14 (by kernel_rfl) h15);obtain⟨y,rfl,e15,hy,h13y⟩:=hJ.f15 h15 hl;obtain⟨p3,c3,e13,_⟩:=hJ.f13 h13;have d0:vs 0=.slice pt k ct:=hJ.ev 0 (by decide) (hd 0 (by kernel_rfl));obtain⟨g,cg,w6,hrun,hr6,hg6,ho6⟩:=aGJ y W.heap.size (HRow1.out.1.later hy) (by omega) (Nat.le_trans HB1.out.size hy.size) (eN u) (vs 13) (by rw[e13];rfl);exact Par.gives_append rfl (.tmp 23) (.tmp 38) 22 22 rfl d0 e15 hrun (hJ.s16 h13 HRow1.out.1 rfl hy h13y rfl hr6 hg6 ho6)
  intro l vs w4 hl hJ;simp only[qNq,List.drop_zero];obtain⟨p3,c3,e13,r13⟩:=hJ.f13 (hl 13 (by decide));obtain⟨g7,c7,e16,r16,s16⟩:=hJ.f16 (hl 16 (by decide));have hgb:=hJ.gb;rw[e16];have H:=qAq (qBq r13 (qBq r16 (qBq s16 hgb)));clear hJ hl r13 r16 s16 hgb;go_wp2_with fail;go_roundg (M-k)
  case measure=>omega
  obtain⟨r13,r16,s16,hgb⟩:=H.out;obtain⟨hrow,hsv,hlk,hu,hLk,hvs⟩:=HRow1.out;have hkl:k<L.length:=by rw[HN.out];exact h1
  have hLs:(L.take (k+1)).map eN=Lk++[eN u]:=by
   rw[List.take_succ_eq_append_getElem hkl,List.map_append,hu,hLk];rfl
  have hbl:∀ q,(Value.slice pt k ct).ownBlock=some q->W.heap.size<=q:=fun q hq=>(HRow.lt hrow q hq).1
  have hBW:Below W.heap.size W w4:=by
   refine⟨hgb.os.trans HB1.out.os,hgb.tape.trans HB1.out.tape,hgb.output.trans HB1.out.output,Nat.le_trans HB1.out.size hgb.size,fun q hq=>?_⟩;rw[hgb.block q (Nat.lt_of_lt_of_le hq HB1.out.size) (fun e=>by have:=hbl q e.symm;omega)];exact HB1.out.block q hq
  refine⟨k+1,by omega,by omega,by omega,rfl,?_,hBW⟩;rw[hLs];have hl1:(Lk++[eN u]).length=k+1:=(by rw[List.length_append,hlk];rfl);refine⟨sv++[vs 13],by rw[hl1,List.length_append,hsv];rfl,?_,fun j hj=>?_⟩
  ·rw[hl1,vW _ _ _ _ (hsv.trans hlk.symm)];exact r16
  rw[hl1] at hj;by_cases hjk:j<k
  ·obtain⟨v,e,r⟩:=hvs j (by rw[hlk];exact hjk);refine⟨v,by rw[List.getElem?_append_left (by omega)];exact e,?_⟩;have hg2:(Lk++[eN u])[j]'(by rw[hl1];exact hj)=Lk[j]'(by rw[hlk];exact hjk):=List.getElem_append_left _;rw[hg2];refine r.of (fun q hq=>?_);have hq1:=(HRow.lt r q hq).2;refine hgb.block q hq1 (fun e2=>?_);obtain⟨_,c1,q1⟩:=r.block q hq;obtain⟨_,c2,q2⟩:=hrow.block q e2.symm;rw[q1] at q2;cases q2
  obtain rfl:j=k:=(by omega);refine⟨vs 13,by rw[List.getElem?_append_right (by omega),hsv,Nat.sub_self];rfl,?_⟩
  have hg2:(Lk++[eN u])[j]'(by rw[hl1];exact hj)=eN u:=by
   rw[List.getElem_append_right (by omega)];simp[hlk]
  rw[hg2];exact r13
 have hex:¬ k<n∨(k<n/\¬ k<M):=by omega
 have he:(L.take M).map eN=(L.take k).map eN:=by
  rcases hex with he|⟨_,he⟩
  ·rw[List.take_of_length_le (l:=L) (i:=k) (by rw[HN.out];omega),List.take_of_length_le (by rw[HN.out];omega)]
  obtain rfl:k=M:=(by omega);rfl
 have HR:=qAq (qBq hr (qBq hB he));obtain⟨sv,hsv,hrow,_⟩:=hr;obtain⟨pt,ct,rfl,_,_⟩:=hrow.isslice;clear hlt hB he hrow hsv;rcases hex with hex|⟨hex,hex'⟩
 all_goals
  go_wp2_with fail;go_ret;exact⟨_,rfl,by rw[HR.out.2.2];exact HR.out.1,HR.out.2.1⟩
