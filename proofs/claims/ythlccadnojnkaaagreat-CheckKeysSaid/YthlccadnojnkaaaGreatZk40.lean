import Derived.Test.YthlccadnojnkaaaGreatZk39
import Derived.Test.YthlccadnojnkaaaGreatZk34
import Derived.Test.YthlccadnojnkaaaGreatZk25
import Derived.Test.YthlccadnojnkaaaGreatZk2
import Derived.Test.YthlccadnojnkaaaGreatZk36
set_option maxHeartbeats 8000000
set_option maxRecDepth 100000
namespace Go.Proofs.YthlccadnojnkaaaGreat
open Go Go.RowKit Go.Proofs Co Co.S Par
theorem InV.lit {w:World} {g:Nat} {l:List T3} {cs:Array Value} (h:w.heap[g]?=some (.cells cs 32)) (hcs:cs.toList=cells3 l) (hl:l.length<=maxLen):InV (fun q=>q=g) w (.slice (some ⟨g,0,none⟩) l.length l.length) l:=by
 refine⟨_,_,rfl,Nat.le_refl _,hl,fun _=>⟨g,0,rfl,aC h,rfl,fun j u hj=>?_⟩⟩
 have:=aA h j
 rw[Nat.zero_add,this,<- hj,<- hcs,Array.getElem?_toList]
theorem Wd.lits {w:World} {g:Nat} {l:List ByteArray} {cs:Array Value} (h:w.heap[g]?=some (.cells cs 9)) (hcs:cs.toList=l.map Value.string) (hl:l.length<=maxLen):Wd w (.slice (some ⟨g,0,none⟩) l.length l.length) l:=by
 refine⟨_,_,rfl,Nat.le_refl _,hl,fun a h=>(by cases h;rfl),fun _=>⟨g,0,cs,(0,0),rfl,h,fun j hj=>?_⟩⟩;rw[Nat.zero_add,<- Array.getElem?_toList,hcs,List.getElem?_map,List.getElem?_eq_getElem hj];rfl
structure JI (K:Nat->Prop) (W0 wS:World) (d b:Nat) (ts:List T) (ps:List Nat) (L1 L2:List PT) (E:Nat->Value) (iS iI:Nat) (vals:List T3) (l:Nat->Bool) (vs:Nat->Value) (w:World):Prop where
 ev:∀ j,j≠iS->l j=true->vs j=E j
 pre:l iI=false->Below wS.heap.size wS w
 row:l iI=false->l iS=true->∃ g,vs iS=.slice (some ⟨g,0,none⟩) vals.length vals.length/\w.heap[g]?=some (.cells (cells3 vals).toArray 32)/\wS.heap.size<=g
 post:l iI=true->PD K W0 w d b ts ps L1 L2
section
variable {K:Nat->Prop} {W0 wS w w':World} {d b:Nat} {ts:List T} {ps:List Nat} {L1 L2:List PT} {E:Nat->Value} {iS iI:Nat} {vals:List T3} {l:Nat->Bool} {vs:Nat->Value}
theorem JI.up (h:JI K W0 wS d b ts ps L1 L2 E iS iI vals l vs w) (i:Nat) (h1:i≠iS) (h2:i≠iI):JI K W0 wS d b ts ps L1 L2 E iS iI vals (upB l i) (upV vs i (E i)) w:=by
 refine⟨fun j hj hl=>?_,fun hl=>h.pre ?_,fun hl hl2=>?_,fun hl=>h.post ?_⟩
 ·by_cases e:j=i
  ·subst e;rw[aS]
  rw[aJ e];rw[aI e] at hl;exact h.ev j hj hl
 ·rwa [aI (fun e=>h2 e.symm)] at hl
 ·rw[aJ (fun e=>h1 e.symm)];exact h.row (by rwa [aI (fun e=>h2 e.symm)] at hl) (by rwa [aI (fun e=>h1 e.symm)] at hl2)
 rwa [aI (fun e=>h2 e.symm)] at hl
theorem JI.new (h:JI K W0 wS d b ts ps L1 L2 E iS iI vals l vs w) (hI:l iI=false) (hne:iS≠iI) {cs:Array Value} (hcs:cs=(cells3 vals).toArray) {n:Nat} (hn:n=vals.length):JI K W0 wS d b ts ps L1 L2 E iS iI vals (upB l iS) (upV vs iS (.slice (some ⟨w.heap.size,0,none⟩) n n)) (w.alloc (.cells cs 32)):=by
 subst hcs hn;refine⟨fun j hj hl=>?_,fun _=>aB (h.pre hI) (aD w _),fun _ _=>⟨w.heap.size,aS,heap_alloc_new w _,(h.pre hI).size⟩,fun hl=>?_⟩
 ·rw[aJ hj];rw[aI hj] at hl;exact h.ev j hj hl
 rw[aI (fun e=>hne e.symm),hI] at hl;cases hl
theorem JI.put (h:JI K W0 wS d b ts ps L1 L2 E iS iI vals l vs w) (hne:iI≠iS) (hP:PD K W0 w' d b ts ps L1 L2):JI K W0 wS d b ts ps L1 L2 E iS iI vals (upB l iI) (upV vs iI (E iI)) w':=by
 refine⟨fun j hj hl=>?_,fun hl=>?_,fun hl=>?_,fun _=>hP⟩
 ·by_cases e:j=iI
  ·subst e;rw[aS]
  rw[aJ e];rw[aI e] at hl;exact h.ev j hj hl
 ·rw[bW] at hl;cases hl
 rw[bW] at hl;cases hl
theorem pU {L0:List PT} {j m:Nat} (h:PD K W0 wS d b ts ps L0 L2) (hb:Below wS.heap.size wS w) (hj:j<ts.length) (hp:j<ps.length) (hL:j<L0.length) {g:Nat} (hg:w.heap[g]?=some (.cells (cells3 vals).toArray 32)) (hgS:wS.heap.size<=g) (hm:SmP m L0[j]) (hm3:m<=590) (hc:ts[j].cols.length<=1000) (hs:∀ x∈vals,x.2.2.size<=maxLen) (hl:vals.length<=1000) :
  Calls Tryz.prog 37 #[.pointer (some ⟨ps[j],0,none⟩),.slice (some ⟨g,0,none⟩) vals.length vals.length] w fun e w'=>e=.returned (.tuple #[.int .i64 (insN ts[j] L0[j] vals),.int .i64 (insE ts[j] vals)])/\PD K W0 w' d b ts ps (L0.set j (insP ts[j] L0[j] vals)) L2:=by
 have hw:=h.with hb;refine (hw.insD hj hp hL (InV.lit hg rfl (by unfold maxLen;omega)) (fun q (hq:q=g)=>.inr ⟨by omega,by rw[hq];exact aC hg⟩) hm hm3 hc hs (by omega)).mono ?_;rintro e w' ⟨rfl,hP⟩;exact⟨rfl,(h.later hb).back hP (fun q hq=>.inl hq)⟩
end
section
variable {K:Nat->Prop} {W0 w:World} {d b:Nat} {ts:List T} {ps:List Nat} {L1 L2:List PT}
abbrev rowsL (L:List PT):List (List R1):=L.map (·.2)
theorem nV {st:List DT} {L:List PT} (h:st.map (·.2)=L):rowsOf st=rowsL L:=by
 subst h;show st.map _=(st.map _).map _;rw[List.map_map];rfl
theorem PD.value (h:PD K W0 w d b ts ps L1 L2) (hi:InvQ ts) (hfew:AllFew ts) (hsz:Short ts) {v:Value} (x:ByteArray) {id:Int} {p:List ByteArray} (hid:F64 id) (hp:Wd w v p) :
  Calls Tryz.prog 99 #[.pointer (some ⟨d,0,none⟩),.string x,.int .i64 id,v] w fun e w'=>e=.returned (.tuple #[(Value.agg #[Value.int .i64 ((valueP ts (rowsL L1) x id p).1.1),Value.int .i64 ((valueP ts (rowsL L1) x id p).1.2.1),Value.string ((valueP ts (rowsL L1) x id p).1.2.2)]),.bool (valueP ts (rowsL L1) x id p).2])/\Below w.heap.size w w':=by
 obtain⟨st,O,hD,_,hL⟩:=h.dd;rw[<- nV hL];exact xU hD hi hfew hsz x hid hp
theorem PD.bykey (h:PD K W0 w d b ts ps L1 L2) (hi:InvQ ts) (hfew:AllFew ts) (hsz:Short ts) (x:ByteArray) (u:T3) :
  Calls Tryz.prog 100 #[.pointer (some ⟨d,0,none⟩),.string x,.agg #[.int .i64 (u.1),.int .i64 (u.2.1),.string (u.2.2)]] w fun e w'=>e=.returned (.tuple #[.int .i64 ((byKeyP ts (rowsL L1) x u).getD 0),.bool (byKeyP ts (rowsL L1) x u).isSome])/\Below w.heap.size w w':=by
 obtain⟨st,O,hD,_,hL⟩:=h.dd;rw[<- nV hL];exact iK hD hi hfew hsz x u
end
theorem aO:Short (pre 4):=by
 intro t ht;have h:∀ t∈pre 4,t.nm.size<=12:=(by decide);exact Nat.le_trans (h t ht) (by unfold maxLen;omega)
theorem aAo:∀ t∈pre 4,∀ c∈t.cols,c.kd=1∨c.kd=2:=by decide
theorem iM:∀ t∈pre 4,0<t.cols.length/\t.cols.length<=4:=by decide
end Go.Proofs.YthlccadnojnkaaaGreat
namespace Go.Proofs.YthlccadnojnkaaaGreat
open Go Go.RowKit Go.Proofs Co Co.S
structure OpX where
 dO:Int
 tbl:ByteArray
 id:Int
 col:ByteArray
 vals:List T3
def opC (u:OpX) (v:Value):List Value:=[.int .i64 u.dO,.string u.tbl,.int .i64 u.id,.string u.col,v]
def cellsO (L:List OpX) (vs:List Value):List Value:=(L.zip vs).flatMap fun p=>opC p.1 p.2
def cutOp (u:OpX):OpX:=⟨u.dO,cutB 20 u.tbl,u.id,cutB 20 u.col,cutR 7 u.vals⟩
def OpsR (W:World) (p:Option Addr) (L:List OpX):Prop:=∀ j (hj:j<L.length),∃ (b off:Nat) (vv:Value),p=some ⟨b,off,none⟩/\b<W.heap.size/\W.cell? ⟨b,off+j*5,none⟩=some (.int .i64 L[j].dO)/\W.cell? ⟨b,off+j*5+1,none⟩=some (.string L[j].tbl)/\W.cell? ⟨b,off+j*5+2,none⟩=some (.int .i64 L[j].id)/\W.cell? ⟨b,off+j*5+3,none⟩=some (.string L[j].col)/\W.cell? ⟨b,off+j*5+4,none⟩=some vv /\
 InV (fun q=>q<W.heap.size) W vv L[j].vals/\L[j].tbl.size<=maxLen/\L[j].col.size<=maxLen/\∀ x∈L[j].vals,x.2.2.size<=maxLen
def OpsO (w:World) (base:Nat) (tv:Value) (L:List OpX):Prop:=∃ sv:List Value,sv.length=L.length/\HRow w base 29 5 tv L.length (cellsO L sv)/\∀ j (hj:j<L.length),∃ v,sv[j]?=some v/\HRow w base 32 3 v L[j].vals.length (cells3 L[j].vals)
theorem uI (L:List OpX) (vs:List Value) (u:OpX) (v:Value) (h:vs.length=L.length):cellsO (L++[u]) (vs++[v])=cellsO L vs++opC u v:=by
 unfold cellsO;rw[List.zip_append h.symm,List.flatMap_append]
 simp
theorem aAp (u:OpX) (v:Value) (h:v.oneCell'=true):∀ x∈opC u v,x.oneCell'=true:=by
 intro x hx;simp only[opC,List.mem_cons,List.not_mem_nil,or_false] at hx;rcases hx with rfl|rfl|rfl|rfl|rfl
 ·rfl
 ·rfl
 ·rfl
 ·rfl
 exact h
theorem aDG:(Tryz.prog.info? 29).map (fun i=>(i.zero,i.size,i.bytes))=some (some (.agg #[.int .i64 0,.string ⟨#[]⟩,.int .i64 0,.string ⟨#[]⟩,.slice none 0 0]),5,72):=by kernel_rfl
theorem OpsO.nil {w:World} {base:Nat}:OpsO w base (.slice none 0 0) []:=⟨[],rfl,HRow.nil,fun _ hj=>absurd hj (Nat.not_lt_zero _)⟩
theorem OpsO.later {w w':World} {base:Nat} {tv:Value} {L:List OpX} (h:OpsO w base tv L) (hb:Below w.heap.size w w'):OpsO w' base tv L:=by
 obtain⟨sv,h1,h2,h3⟩:=h;refine⟨sv,h1,h2.later hb,fun j hj=>?_⟩;obtain⟨v,e,r⟩:=h3 j hj;exact⟨v,e,r.later hb⟩
structure OJ (W0:World) (base:Nat) (E:Nat->Value) (rv:Value) (n:Nat) (xs:List Value) (u:OpX) (l:Nat->Bool) (vs:Nat->Value) (w:World):Prop where
 gb:W0.grownBy w rv.ownBlock
 f0:l 16=false->Below W0.heap.size W0 w
 ev:∀ j,j<13->l j=true->vs j=E j
 f13:l 13=true->∃ p c,vs 13=.slice p u.vals.length c/\HRow w base 32 3 (vs 13) u.vals.length (cells3 u.vals)
 f14:l 14=true->vs 14=.agg #[.int .i64 u.dO,.string u.tbl,.int .i64 u.id,.string u.col,vs 13]
 f15:l 15=true->l 16=false->∃ y,w=y.alloc (.cells #[.int .i64 u.dO,.string u.tbl,.int .i64 u.id,.string u.col,vs 13] 29)/\vs 15=.slice (some ⟨y.heap.size,0,none⟩) 1 1/\Below W0.heap.size W0 y/\∀ q,(vs 13).ownBlock=some q->q<y.heap.size
 f16:l 16=true->∃ g cap,vs 16=.slice (some ⟨g,0,none⟩) (n+1) cap/\HRow w base 29 5 (.slice (some ⟨g,0,none⟩) (n+1) cap) (n+1) (xs++opC u (vs 13))/\(rv.ownBlock=some g∨W0.heap.size<=g)
section
open Par
variable {W0 w w':World} {base:Nat} {E:Nat->Value} {rv:Value} {n:Nat} {xs:List Value} {u:OpX} {l:Nat->Bool} {vs:Nat->Value}
theorem OJ.up (h:OJ W0 base E rv n xs u l vs w) (i:Nat) (hi:i<13):OJ W0 base E rv n xs u (upB l i) (upV vs i (E i)) w:=by
 have k:∀ j,13<=j->upB l i j=l j/\upV vs i (E i) j=vs j:=(fun j hj=>⟨aI (by omega),aJ (by omega)⟩);refine⟨h.gb,fun hl=>h.f0 ((k 16 (by omega)).1▸hl),fun j hj hl=>?_,fun hl=>?_,fun hl=>?_,fun h1 h2=>?_,fun hl=>?_⟩
 ·by_cases e:j=i
  ·subst e;rw[aS]
  rw[aJ e];rw[aI e] at hl;exact h.ev j hj hl
 ·rw[(k 13 (by omega)).1] at hl;rw[(k 13 (by omega)).2];exact h.f13 hl
 ·rw[(k 14 (by omega)).1] at hl;rw[(k 14 (by omega)).2,(k 13 (by omega)).2];exact h.f14 hl
 ·rw[(k 15 (by omega)).1] at h1;rw[(k 16 (by omega)).1] at h2;rw[(k 15 (by omega)).2,(k 13 (by omega)).2];exact h.f15 h1 h2
 rw[(k 16 (by omega)).1] at hl;rw[(k 16 (by omega)).2,(k 13 (by omega)).2];exact h.f16 hl
theorem OJ.s13 (h:OJ W0 base E rv n xs u l vs w) (hbase:base<=W0.heap.size) (h14:l 14=false) (h15:l 15=false) (h16:l 16=false) {p:Option Addr} {c:Nat} (hr:HRow w' w.heap.size 32 3 (.slice p u.vals.length c) u.vals.length (cells3 u.vals)) (hb:Below w.heap.size w w') :
  OJ W0 base E rv n xs u (upB l 13) (upV vs 13 (.slice p u.vals.length c)) w':=by
 have hb2:=aB (h.f0 h16) hb;refine⟨cZ hb2,fun _=>hb2,fun j hj hl=>?_,fun _=>⟨p,c,aS,by rw[aS];exact HRow.mono hr (Nat.le_trans hbase (h.f0 h16).size)⟩,fun hl=>?_,fun hl=>?_,fun hl=>?_⟩
 ·rw[aJ (by omega)];rw[aI (by omega)] at hl;exact h.ev j hj hl
 ·rw[aI (by decide),h14] at hl;cases hl
 ·rw[aI (by decide),h15] at hl;cases hl
 rw[aI (by decide),h16] at hl;cases hl
theorem OJ.s14 (h:OJ W0 base E rv n xs u l vs w) (h15:l 15=false) (h16:l 16=false):OJ W0 base E rv n xs u (upB l 14) (upV vs 14 (.agg #[.int .i64 u.dO,.string u.tbl,.int .i64 u.id,.string u.col,vs 13])) w:=by
 refine⟨h.gb,fun _=>h.f0 h16,fun j hj hl=>?_,fun hl=>?_,fun _=>?_,fun hl=>?_,fun hl=>?_⟩
 ·rw[aJ (by omega)];rw[aI (by omega)] at hl;exact h.ev j hj hl
 ·rw[aI (by decide)] at hl;rw[aJ (by decide)];exact h.f13 hl
 ·rw[aS,aJ (by decide)]
 ·rw[aI (by decide),h15] at hl;cases hl
 rw[aI (by decide),h16] at hl;cases hl
theorem OJ.s15 (h:OJ W0 base E rv n xs u l vs w) (h13:l 13=true) (h16:l 16=false):OJ W0 base E rv n xs u (upB l 15) (upV vs 15 (.slice (some ⟨w.heap.size,0,none⟩) 1 1)) (w.alloc (.cells #[.int .i64 u.dO,.string u.tbl,.int .i64 u.id,.string u.col,vs 13] 29)):=by
 have hb2:=aB (h.f0 h16) (aD w (.cells #[.int .i64 u.dO,.string u.tbl,.int .i64 u.id,.string u.col,vs 13] 29));obtain⟨p,c,e,h1⟩:=h.f13 h13;refine⟨cZ hb2,fun _=>hb2,fun j hj hl=>?_,fun hl=>?_,fun hl=>?_,fun _ _=>⟨w,?_,aS,h.f0 h16,fun q hq=>?_⟩,fun hl=>?_⟩
 ·rw[aJ (by omega)];rw[aI (by omega)] at hl;exact h.ev j hj hl
 ·rw[aJ (by decide)];exact⟨p,c,e,h1.later (aD _ _)⟩
 ·rw[aI (by decide)] at hl;rw[aJ (by decide),aJ (by decide)];exact h.f14 hl
 ·rw[aJ (by decide)]
 ·rw[aJ (by decide)] at hq;exact (HRow.lt h1 q hq).2
 rw[aI (by decide),h16] at hl;cases hl
theorem OJ.s16 (h:OJ W0 base E rv n xs u l vs w) (h13:l 13=true) (hW:HRow W0 base 29 5 rv n xs) {y:World} {v:Value} (h15:w=y.alloc (.cells #[.int .i64 u.dO,.string u.tbl,.int .i64 u.id,.string u.col,vs 13] 29)) (hy:Below W0.heap.size W0 y) (h13y:∀ q,(vs 13).ownBlock=some q->q<y.heap.size) {g cap:Nat}
  (hv:v=.slice (some ⟨g,0,none⟩) (n+1) cap) (hr:HRow w' base 29 5 (.slice (some ⟨g,0,none⟩) (n+1) cap) (n+1) (xs++opC u (vs 13))) (hg:y.grownBy w' rv.ownBlock) (ho:rv.ownBlock=some g∨y.heap.size<=g) :
  OJ W0 base E rv n xs u (upB l 16) (upV vs 16 v) w':=by
 obtain⟨p,c,e,h1⟩:=h.f13 h13;have hgb:W0.grownBy w' rv.ownBlock:=⟨hg.os.trans hy.os,hg.tape.trans hy.tape,hg.output.trans hy.output,Nat.le_trans hy.size hg.size,fun q hq hn=>(hg.block q (Nat.lt_of_lt_of_le hq hy.size) hn).trans (hy.block q hq)⟩;refine⟨hgb,fun hl=>?_,fun j hj hl=>?_,fun hl=>?_,fun hl=>?_,fun _ hl=>?_,fun _=>⟨g,cap,aS.trans hv,?_,ho.imp (fun h=>h) (fun h=>Nat.le_trans hy.size h)⟩⟩
 ·rw[bW] at hl;cases hl
 ·rw[aJ (by omega)];rw[aI (by omega)] at hl;exact h.ev j hj hl
 ·rw[aJ (by decide)];refine⟨p,c,e,h1.of (fun k hk=>?_)⟩;have hlt:=h13y k hk;rw[hg.block k hlt (fun e2=>?_),h15]
  ·exact (aD y _).block k hlt |>.symm
  obtain⟨_,c1,q1⟩:=h1.block k hk;obtain⟨_,c2,q2⟩:=hW.block k e2.symm;rw[h15,(aD y _).block k hlt,hy.block k (HRow.lt hW k e2.symm).2,q2] at q1;cases q1
 ·rw[aI (by decide)] at hl;rw[aJ (by decide),aJ (by decide)];exact h.f14 hl
 ·rw[bW] at hl;cases hl
 rw[aJ (by decide)];exact hr
end
theorem aHp (y:World) (base:Nat) {v:Value} {m:Nat} {xs:List Value} (hr:HRow y base 29 5 v m xs) (hm:m+1<=1000000) (hb:base<=y.heap.size) (u:OpX) (vv:Value) (h1:vv.oneCell'=true) :
  ∃ g cap w',(Builtin.append_ #[35,35] 35 #[v,.slice (some ⟨y.heap.size,0,none⟩) 1 1]).run Tryz.prog (y.alloc (.cells #[.int .i64 u.dO,.string u.tbl,.int .i64 u.id,.string u.col,vv] 29))=.ok (.slice (some ⟨g,0,none⟩) (m+1) cap) w' /\
   HRow w' base 29 5 (.slice (some ⟨g,0,none⟩) (m+1) cap) (m+1) (xs++opC u vv)/\y.grownBy w' v.ownBlock/\(v.ownBlock=some g∨y.heap.size<=g) :=
 Go.Proofs.YthlccadnojnkaaaGreat.app_one Tryz.underlying35 aDG rfl (by decide) (by decide) y base hr hm hb #[.int .i64 u.dO,.string u.tbl,.int .i64 u.id,.string u.col,vv] rfl (fun x hx=>aAp u vv h1 x (by simpa [opC] using hx))
theorem aAq {W:World} {p:Option Addr} {c:Nat} {L:List OpX} (M:Nat) (hM:M<=1000) (h:OpsR W p L) (hL:L.length<=maxLen) :
  Calls Tryz.prog 23 #[.slice p L.length c,.int .i64 (M:Int)] W fun e w'=>∃ tv,e=.returned tv/\OpsO w' W.heap.size tv ((L.take M).map cutOp)/\Below W.heap.size W w':=by
 obtain⟨n,hn⟩:∃ n,L.length=n:=⟨_,rfl⟩;have hn':(n:Int)<=9223372036854775807:=(by unfold maxLen at hL;omega);have HN:=qAq hn;have HI:=qAq h;rw[hn];clear h hL hn;go_enter Tryz.func23,Tryz.ntmps23;go_wp2_with fail;go_loopg [5,6] (M+1) (fun gh tv iv w=>∃ (k:Nat),k<=n/\k<=M/\M+1<=k+gh/\iv=.int .i64 (k:Int)/\OpsO w W.heap.size tv ((L.take k).map cutOp)/\Below W.heap.size W w)
 case atStart=>exact⟨0,Nat.zero_le _,Nat.zero_le _,by omega,rfl,OpsO.nil,Below.refl _ _⟩
 obtain⟨k,hk,hkM,hg,rfl,hr,hB⟩:=hrel;by_cases hlt:k<n/\k<M
 ·obtain⟨h1,h2⟩:=hlt;have hkl:k<L.length:=(by rw[HN.out];exact h1);have hdM:(k:Int)<(M:Int):=(by omega);have hdn:(k:Int)<(n:Int):=(by omega);have hlk:((L.take k).map cutOp).length=k:=(by rw[List.length_map,List.length_take,HN.out];omega);obtain⟨Lk,hLk⟩:∃ l,(L.take k).map cutOp=l:=⟨_,rfl⟩;rw[hLk] at hr hlk;obtain⟨sv,hsv,hrow,hvs⟩:=hr;rw[hlk] at hsv hrow;obtain⟨pt,ct,rfl,_,_⟩:=hrow.isslice;obtain⟨b1,o1,vv,rfl,hb1,y0,y1,y2,y3,y4,hV,z1,z2,z3⟩:=HI.out k hkl;have tr0:∀ {a:Addr} {v:Value},W.cell? a=some v->wr.cell? a=some v:=(fun {a v} h=>(World.cell?_of_block (w:=W) (hB.block _ (World.block_lt_of_cell? _ _ h))).trans h);replace y0:=tr0 y0;replace y1:=tr0 y1;replace y2:=tr0 y2;replace y3:=tr0 y3;replace y4:=tr0 y4;replace hV:=hV.later hB;obtain⟨u,hu⟩:∃ u,L[k]=u:=⟨_,rfl⟩;rw[hu] at y0 y1 y2 y3 hV z1 z2 z3;obtain⟨pv,cv,rfl,_,_⟩:=hV.slice;have hbA:=aD wr (.cells #[.int .i64 u.dO,.string u.tbl,.int .i64 u.id,.string u.col,.slice pv u.vals.length cv] 29);have kA:=heap_alloc_new wr (.cells #[.int .i64 u.dO,.string u.tbl,.int .i64 u.id,.string u.col,.slice pv u.vals.length cv] 29);have hrlt:∀ q,(Value.slice pt k ct).ownBlock=some q->q<wr.heap.size:=(fun q hq=>(HRow.lt hrow q hq).2);obtain⟨w1,hw1⟩:∃ w1,wr.alloc (.cells #[.int .i64 u.dO,.string u.tbl,.int .i64 u.id,.string u.col,.slice pv u.vals.length cv] 29)=w1:=⟨_,rfl⟩;have hs1:wr.heap.size<w1.heap.size:=(by rw[<- hw1,World.size_alloc];omega);obtain⟨tb,hT⟩:∃ B,wr.heap.size=B:=⟨_,rfl⟩;rw[hw1] at hbA kA;have hB1:Below W.heap.size W w1:=aB hB hbA;have HB1:=qAq hB1;have HV:=qAq (qBq (hV.later hbA) (qBq z1 (qBq z2 z3)))
  have hvs1:∀ j (hj:j<Lk.length),∃ v,sv[j]?=some v/\HRow w1 W.heap.size 32 3 v Lk[j].vals.length (cells3 Lk[j].vals):=fun j hj=>by
   obtain⟨v,e,r⟩:=hvs j hj;exact⟨v,e,r.later hbA⟩
  have HRow1:=qAq (qBq (hrow.later hbA) (qBq hsv (qBq hlk (qBq hu (qBq hLk hvs1)))))
  have HX:Hid (∀ w,w1.grownBy w (Value.slice pt k ct).ownBlock->w.cell? ⟨tb,0,none⟩=some (.int .i64 u.dO)/\w.cell? ⟨tb,1,none⟩=some (.string u.tbl)/\w.cell? ⟨tb,2,none⟩=some (.int .i64 u.id)/\w.cell? ⟨tb,3,none⟩=some (.string u.col)/\w.cell? ⟨tb,4,none⟩=some (.slice pv u.vals.length cv)/\tb<w.heap.size):=qAq (fun w hg=>by
   have hblk:=(hg.block tb (by omega) (fun e=>by have:=hrlt tb e.symm;omega)).trans (hT▸kA);exact⟨aA hblk 0,aA hblk 1,aA hblk 2,aA hblk 3,aA hblk 4,by have:=hg.size;omega⟩)
  have hcut:∀ (s:ByteArray) (w:World),s.size<=maxLen->Calls Tryz.prog 55 #[.string s,.int .i64 20] w fun e w'=>e=.returned (.string (cutB 20 s))/\w=w':=fun s w hs=>aAQ s 20 w hs (by omega) (by omega)
  have HC:=qAq hcut;have HW:=qAq (qBq hw1 (qBq hT hs1));clear hB hsv hrow hvs hvs1 hu hLk hV z1 z2 z3 hbA kA hrlt hw1 hs1 hT hB1 hlk tr0 hcut;go_upto_region 6 with fail;rw[HW.out.1,HW.out.2.1];clear y0 y1 y2 y3 y4;refine Par.wp_region_par4 17 (OJ w1 W.heap.size (fun idx=>[.slice pt k ct,(Value.pointer (some ⟨tb,0,none⟩)),(Value.int .i64 (u.dO)),(Value.pointer (some ⟨tb,1,none⟩)),.string u.tbl,.string (cutB 20 u.tbl),(Value.pointer (some ⟨tb,2,none⟩)),(Value.int .i64 (u.id)),(Value.pointer (some ⟨tb,3,none⟩)),.string u.col,.string (cutB 20 u.col),(Value.pointer (some ⟨tb,4,none⟩)),.slice pv u.vals.length cv].getD idx undef) (.slice pt k ct) k (cellsO Lk sv) (cutOp u)) ?AA ?hmA ?hBA ?hAA ?hJA ?hopA ?hTA
  case hmA=>kernel_rfl
  case hBA=>kernel_rfl
  case hAA =>
   intro vs;simp only[Par.putA,Par.dstAt,Act.put,qDq,qEq,qFq,qLq,qGq,qHq,qIq];rfl
  case hJA =>
   intro vs;have hd:=aF w1;exact⟨cZ hd,fun _=>hd,fun _ _ h=>(by cases h),fun h=>(by cases h),fun h=>(by cases h),fun h=>(by cases h),fun h=>(by cases h)⟩
  case hopA =>
   simp only[qMq,List.take_zero,Par.GiveAllK,and_true];and_intros<;>intro l vs w hJ hl hd hcl
   ·have HJ:=qAq hJ;obtain⟨x0,x1,x2,x3,x4,xl⟩:=HX.out w hJ.gb;clear hJ hd hcl;simp only[Par.GivesW];go_simp;all_goals exact HJ.out.up 0 (by decide)
   ·have HJ:=qAq hJ;obtain⟨x0,x1,x2,x3,x4,xl⟩:=HX.out w hJ.gb;clear hJ hd hcl;simp only[Par.GivesW];go_simp;all_goals exact HJ.out.up 1 (by decide)
   ·have HJ:=qAq hJ;obtain⟨x0,x1,x2,x3,x4,xl⟩:=HX.out w hJ.gb;have d1:vs 1=(Value.pointer (some ⟨tb,0,none⟩)):=hJ.ev 1 (by decide) (hd 1 (by kernel_rfl));clear hJ hd hcl;simp only[Par.GivesW,d1];go_simp;all_goals exact HJ.out.up 2 (by decide)
   ·have HJ:=qAq hJ;obtain⟨x0,x1,x2,x3,x4,xl⟩:=HX.out w hJ.gb;clear hJ hd hcl;simp only[Par.GivesW];go_simp;all_goals exact HJ.out.up 3 (by decide)
   ·have HJ:=qAq hJ;obtain⟨x0,x1,x2,x3,x4,xl⟩:=HX.out w hJ.gb;have d3:vs 3=(Value.pointer (some ⟨tb,1,none⟩)):=hJ.ev 3 (by decide) (hd 3 (by kernel_rfl));clear hJ hd hcl;simp only[Par.GivesW,d3];go_simp;all_goals exact HJ.out.up 4 (by decide)
   ·have HJ:=qAq hJ;obtain⟨x0,x1,x2,x3,x4,xl⟩:=HX.out w hJ.gb;have d4:vs 4=.string u.tbl:=hJ.ev 4 (by decide) (hd 4 (by kernel_rfl));have hc:=HC.out u.tbl w HV.out.2.1;clear hJ hd hcl;simp only[Par.GivesW,d4];go_simp;refine hc.mono ?_;rintro e y ⟨rfl,rfl⟩;exact⟨_,rfl,HJ.out.up 5 (by decide)⟩
   ·have HJ:=qAq hJ;obtain⟨x0,x1,x2,x3,x4,xl⟩:=HX.out w hJ.gb;clear hJ hd hcl;simp only[Par.GivesW];go_simp;all_goals exact HJ.out.up 6 (by decide)
   ·have HJ:=qAq hJ;obtain⟨x0,x1,x2,x3,x4,xl⟩:=HX.out w hJ.gb;have d6:vs 6=(Value.pointer (some ⟨tb,2,none⟩)):=hJ.ev 6 (by decide) (hd 6 (by kernel_rfl));clear hJ hd hcl;simp only[Par.GivesW,d6];go_simp;all_goals exact HJ.out.up 7 (by decide)
   ·have HJ:=qAq hJ;obtain⟨x0,x1,x2,x3,x4,xl⟩:=HX.out w hJ.gb;clear hJ hd hcl;simp only[Par.GivesW];go_simp;all_goals exact HJ.out.up 8 (by decide)
   ·have HJ:=qAq hJ;obtain⟨x0,x1,x2,x3,x4,xl⟩:=HX.out w hJ.gb;have d8:vs 8=(Value.pointer (some ⟨tb,3,none⟩)):=hJ.ev 8 (by decide) (hd 8 (by kernel_rfl));clear hJ hd hcl;simp only[Par.GivesW,d8];go_simp;all_goals exact HJ.out.up 9 (by decide)
   ·have HJ:=qAq hJ;obtain⟨x0,x1,x2,x3,x4,xl⟩:=HX.out w hJ.gb;have d9:vs 9=.string u.col:=hJ.ev 9 (by decide) (hd 9 (by kernel_rfl));have hc:=HC.out u.col w HV.out.2.2.1;clear hJ hd hcl;simp only[Par.GivesW,d9];go_simp;refine hc.mono ?_;rintro e y ⟨rfl,rfl⟩;exact⟨_,rfl,HJ.out.up 10 (by decide)⟩
   ·have HJ:=qAq hJ;obtain⟨x0,x1,x2,x3,x4,xl⟩:=HX.out w hJ.gb;clear hJ hd hcl;simp only[Par.GivesW];go_simp;all_goals exact HJ.out.up 11 (by decide)
   ·have HJ:=qAq hJ;obtain⟨x0,x1,x2,x3,x4,xl⟩:=HX.out w hJ.gb;have d11:vs 11=(Value.pointer (some ⟨tb,4,none⟩)):=hJ.ev 11 (by decide) (hd 11 (by kernel_rfl));clear hJ hd hcl;simp only[Par.GivesW,d11];go_simp;all_goals exact HJ.out.up 12 (by decide)
   ·have HJ:=qAq hJ;have h14:l 14=false:=(by cases h:l 14 with|false=>rfl|true=>exact absurd (hcl 14 13 (by kernel_rfl) h) (by simp[hl]));have h15:l 15=false:=(by cases h:l 15 with|false=>rfl|true=>exact absurd (hcl 15 14 (by kernel_rfl) h) (by simp[h14]));have h16:l 16=false:=(by cases h:l 16 with|false=>rfl|true=>exact absurd (hcl 16 15 (by kernel_rfl) h) (by simp[h15]));have d12:vs 12=.slice pv u.vals.length cv:=hJ.ev 12 (by decide) (hd 12 (by kernel_rfl));have hc:=aDy (N:=7) (by decide) (HV.out.1.later (hJ.f0 h16)) HV.out.2.2.2;clear hJ hd hcl;simp only[Par.GivesW,d12];go_simp;refine hc.mono ?_;rintro e y ⟨v',rfl,hr2,hb2⟩;obtain⟨p3,c3,rfl,_,_⟩:=hr2.isslice;exact⟨_,rfl,HJ.out.s13 HB1.out.size h14 h15 h16 hr2 hb2⟩
   ·have h15:l 15=false:=(by cases h:l 15 with|false=>rfl|true=>exact absurd (hcl 15 14 (by kernel_rfl) h) (by simp[hl]));have h16:l 16=false:=(by cases h:l 16 with|false=>rfl|true=>exact absurd (hcl 16 15 (by kernel_rfl) h) (by simp[h15]));have d2:vs 2=(Value.int .i64 (u.dO)):=hJ.ev 2 (by decide) (hd 2 (by kernel_rfl));have d5:vs 5=.string (cutB 20 u.tbl):=hJ.ev 5 (by decide) (hd 5 (by kernel_rfl));have d7:vs 7=(Value.int .i64 (u.id)):=hJ.ev 7 (by decide) (hd 7 (by kernel_rfl));have d10:vs 10=.string (cutB 20 u.col):=hJ.ev 10 (by decide) (hd 10 (by kernel_rfl));obtain⟨p3,c3,e13,_⟩:=hJ.f13 (hd 13 (by kernel_rfl));have HJ:=qAq (hJ.s14 h15 h16);rw[e13] at HJ;clear hJ hd hcl;simp only[Par.GivesW,d2,d5,d7,d10,e13];go_simp;all_goals exact HJ.out
   ·have h16:l 16=false:=(by cases h:l 16 with|false=>rfl|true=>exact absurd (hcl 16 15 (by kernel_rfl) h) (by simp[hl]));have h14:=hd 14 (by kernel_rfl);have d14:=hJ.f14 h14;have h13:=hcl 14 13 (by kernel_rfl) h14;obtain⟨p3,c3,e13,_⟩:=hJ.f13 h13;have HJ:=qAq (hJ.s15 h13 h16);rw[e13] at HJ d14;clear hJ hd hcl;simp only[Par.GivesW,d14];go_simp;all_goals exact HJ.out
   have h15:=hd 15 (by kernel_rfl);have h13:=hcl 14 13 (by kernel_rfl) (hcl 15 14 (by kernel_rfl) h15);obtain⟨y,rfl,e15,hy,h13y⟩:=hJ.f15 h15 hl;obtain⟨p3,c3,e13,_⟩:=hJ.f13 h13;have d0:vs 0=.slice pt k ct:=hJ.ev 0 (by decide) (hd 0 (by kernel_rfl));obtain⟨g,cg,w6,hrun,hr6,hg6,ho6⟩:=aHp y W.heap.size (HRow1.out.1.later hy) (by omega) (Nat.le_trans HB1.out.size hy.size) (cutOp u) (vs 13) (by rw[e13];rfl);exact Par.gives_append rfl (.tmp 23) (.tmp 38) 35 35 rfl d0 e15 hrun (hJ.s16 h13 HRow1.out.1 rfl hy h13y rfl hr6 hg6 ho6)
  intro l vs w4 hl hJ;simp only[qNq,List.drop_zero];obtain⟨p3,c3,e13,r13⟩:=hJ.f13 (hl 13 (by decide));obtain⟨g7,c7,e16,r16,s16⟩:=hJ.f16 (hl 16 (by decide));have hgb:=hJ.gb;rw[e16];have H:=qAq (qBq r13 (qBq r16 (qBq s16 hgb)));clear hJ hl r13 r16 s16 hgb;go_wp2_with fail;go_roundg (M-k)
  case measure=>omega
  obtain⟨r13,r16,s16,hgb⟩:=H.out;obtain⟨hrow,hsv,hlk,hu,hLk,hvs⟩:=HRow1.out;have hkl:k<L.length:=by rw[HN.out];exact h1
  have hLs:(L.take (k+1)).map cutOp=Lk++[cutOp u]:=by
   rw[List.take_succ_eq_append_getElem hkl,List.map_append,hu,hLk];rfl
  have hbl:∀ q,(Value.slice pt k ct).ownBlock=some q->W.heap.size<=q:=fun q hq=>(HRow.lt hrow q hq).1
  have hBW:Below W.heap.size W w4:=by
   refine⟨hgb.os.trans HB1.out.os,hgb.tape.trans HB1.out.tape,hgb.output.trans HB1.out.output,Nat.le_trans HB1.out.size hgb.size,fun q hq=>?_⟩;rw[hgb.block q (Nat.lt_of_lt_of_le hq HB1.out.size) (fun e=>by have:=hbl q e.symm;omega)];exact HB1.out.block q hq
  refine⟨k+1,by omega,by omega,by omega,rfl,?_,hBW⟩;rw[hLs];have hl1:(Lk++[cutOp u]).length=k+1:=(by rw[List.length_append,hlk];rfl);refine⟨sv++[vs 13],by rw[hl1,List.length_append,hsv];rfl,?_,fun j hj=>?_⟩
  ·rw[hl1,uI _ _ _ _ (hsv.trans hlk.symm)];exact r16
  rw[hl1] at hj;by_cases hjk:j<k
  ·obtain⟨v,e,r⟩:=hvs j (by rw[hlk];exact hjk);refine⟨v,by rw[List.getElem?_append_left (by omega)];exact e,?_⟩;have hg2:(Lk++[cutOp u])[j]'(by rw[hl1];exact hj)=Lk[j]'(by rw[hlk];exact hjk):=List.getElem_append_left _;rw[hg2];refine r.of (fun q hq=>?_);have hq1:=(HRow.lt r q hq).2;refine hgb.block q hq1 (fun e2=>?_);obtain⟨_,c1,q1⟩:=r.block q hq;obtain⟨_,c2,q2⟩:=hrow.block q e2.symm;rw[q1] at q2;cases q2
  obtain rfl:j=k:=(by omega);refine⟨vs 13,by rw[List.getElem?_append_right (by omega),hsv,Nat.sub_self];rfl,?_⟩
  have hg2:(Lk++[cutOp u])[j]'(by rw[hl1];exact hj)=cutOp u:=by
   rw[List.getElem_append_right (by omega)];simp[hlk]
  rw[hg2];exact r13
 have hex:¬ k<n∨(k<n/\¬ k<M):=by omega
 have he:(L.take M).map cutOp=(L.take k).map cutOp:=by
  rcases hex with he|⟨_,he⟩
  ·rw[List.take_of_length_le (l:=L) (i:=k) (by rw[HN.out];omega),List.take_of_length_le (by rw[HN.out];omega)]
  obtain rfl:k=M:=(by omega);rfl
 have HR:=qAq (qBq hr (qBq hB he));obtain⟨sv,hsv,hrow,_⟩:=hr;obtain⟨pt,ct,rfl,_,_⟩:=hrow.isslice;clear hlt hB he hrow hsv;rcases hex with hex|⟨hex,hex'⟩
 all_goals
  go_wp2_with fail;go_ret;exact⟨_,rfl,by rw[HR.out.2.2];exact HR.out.1,HR.out.2.1⟩
def fill1 (ts:List T) (L:List PT) (o:OpX):List PT :=
 match ts[(ixT ts o.tbl).toNat]?,L[(ixT ts o.tbl).toNat]? with
 | some t,some x=>if ixT ts o.tbl<0 then L else if o.dO=1 then L.set (ixT ts o.tbl).toNat (insP t x o.vals) else if o.dO=2 then L.set (ixT ts o.tbl).toNat (delP x o.id) else if o.vals.length=1 then L.set (ixT ts o.tbl).toNat (setP t x o.id o.col (o.vals.getD 0 z3)) else L
 | _,_=>L
def fillP (ts:List T) (L:List PT) (l:List OpX):List PT:=l.foldl (fill1 ts) L
structure OpOk (o:OpX):Prop where
 id:F64 o.id
 tbl:o.tbl.size<=maxLen
 col:o.col.size<=maxLen
 vals:∀ x∈o.vals,x.2.2.size<=maxLen
 few:o.vals.length<=1000
section
variable {ts:List T} {L:List PT} {o:OpX} {j m:Nat}
theorem kK (h:ixT ts o.tbl<0):fill1 ts L o=L:=by
 unfold fill1;split
 ·rw[if_pos h]
 rfl
theorem dX (h:ixT ts o.tbl=(j:Int)) (hj:j<ts.length) (hL:j<L.length):fill1 ts L o=if o.dO=1 then L.set j (insP ts[j] L[j] o.vals) else if o.dO=2 then L.set j (delP L[j] o.id) else if o.vals.length=1 then L.set j (setP ts[j] L[j] o.id o.col (o.vals.getD 0 z3)) else L:=by
 unfold fill1;rw[h];simp only[Int.toNat_natCast,List.getElem?_eq_getElem hj,List.getElem?_eq_getElem hL];rw[if_neg (by omega)]
theorem SmP.mono {m m':Nat} {x:PT} (h:SmP m x) (hm:m<=m'):SmP m' x:=⟨Nat.le_trans h.1 hm,h.2⟩
theorem xX (h:∀ x∈L,SmP m x) {y:PT} (hy:SmP (m+1) y):∀ x∈L.set j y,SmP (m+1) x:=fun x hx=>by
 rcases List.mem_or_eq_of_mem_set hx with h1|rfl
 ·exact (h x h1).mono (by omega)
 ·exact hy
theorem uJ (h:∀ x∈L,SmP m x):∀ x∈fill1 ts L o,SmP (m+1) x:=by
 unfold fill1;split
 ·rename_i t x h1 h2;have hx:=h x (List.mem_of_getElem? h2);split
  ·exact fun x hx=>(h x hx).mono (by omega)
  split
  ·exact xX h (hx.ins t o.vals)
  split
  ·exact xX h ((hx.del o.id).mono (by omega))
  split
  ·exact xX h ((hx.set t o.id o.col _).mono (by omega))
  exact fun x hx=>(h x hx).mono (by omega)
 exact fun x hx=>(h x hx).mono (by omega)
theorem dY {l:List OpX} (h:∀ x∈L,SmP m x):∀ x∈fillP ts L l,SmP (m+l.length) x:=by
 induction l generalizing L m with
 | nil=>exact h
 | cons o l ih =>
  have:=ih (uJ (ts:=ts) (o:=o) h)
  intro x hx
  have:=this x hx
  rw[List.length_cons];exact this.mono (by omega)
theorem nW {l:List OpX} (hj:j<l.length):fillP ts L (l.take (j+1))=fill1 ts (fillP ts L (l.take j)) l[j]:=by
 unfold fillP;rw[List.take_succ_eq_append_getElem hj,List.foldl_append];rfl
end
theorem aGC {α:Type} (f:α->List Value) (hf:∀ x,(f x).length=5):∀ (l:List α) (j k:Nat) (hj:j<l.length),k<5->(l.flatMap f)[j*5+k]?=(f l[j])[k]?
 | [],j,_,hj,_=>absurd hj (Nat.not_lt_zero j)
 | x::l,0,k,_,hk=>by
  rw[List.flatMap_cons,List.getElem?_append_left (by rw[hf];omega),Nat.zero_mul,Nat.zero_add];rfl
 | x::l,j+1,k,hj,hk=>by
  have hj':j<l.length:=(by simpa using hj);rw[List.flatMap_cons,List.getElem?_append_right (by rw[hf];omega),hf,show (j+1)*5+k-5=j*5+k by omega];exact aGC f hf l j k hj' hk
theorem aBK {L:List OpX} {sv:List Value} (h:sv.length=L.length) {j:Nat} (hj:j<L.length) {v:Value} (hv:sv[j]?=some v) :
  (cellsO L sv)[j*5]?=some (.int .i64 L[j].dO)/\(cellsO L sv)[j*5+1]?=some (.string L[j].tbl)/\(cellsO L sv)[j*5+2]?=some (.int .i64 L[j].id)/\(cellsO L sv)[j*5+3]?=some (.string L[j].col)/\(cellsO L sv)[j*5+4]?=some v:=by
 have hz:j<(L.zip sv).length:=by rw[List.length_zip,h,Nat.min_self];exact hj
 have e:(L.zip sv)[j]=(L[j],v):=by
  rw[List.getElem_zip]
  have:sv[j]'(by rw[h];exact hj)=v:=by
   have:=(List.getElem?_eq_some_iff.1 hv).2
   exact this
  rw[this]
 have f:=(fun k hk=>aGC (fun p:OpX×Value=>opC p.1 p.2) (fun _=>rfl) (L.zip sv) j k hz hk);simp only[e] at f;exact⟨f 0 (by decide),f 1 (by decide),f 2 (by decide),f 3 (by decide),f 4 (by decide)⟩
theorem uK {K:Nat->Prop} {W0:World} {base:Nat} {tv:Value} {L:List OpX} (ho:OpsO W0 base tv L) (hK:∀ q,base<=q->q<W0.heap.size->K q) {j:Nat} (hj:j<L.length) :
  ∃ g cap vv,tv=.slice (some ⟨g,0,none⟩) L.length cap/\∀ w:World,(∀ q,K q->w.heap[q]?=W0.heap[q]?) ->
   (w.cell? ⟨g,j*5,none⟩=some (.int .i64 L[j].dO)/\w.cell? ⟨g,j*5+1,none⟩=some (.string L[j].tbl)/\w.cell? ⟨g,j*5+2,none⟩=some (.int .i64 L[j].id)/\w.cell? ⟨g,j*5+3,none⟩=some (.string L[j].col)/\w.cell? ⟨g,j*5+4,none⟩=some vv/\g<w.heap.size) /\
   HRow w base 32 3 vv L[j].vals.length (cells3 L[j].vals)/\InV K w vv L[j].vals:=by
 obtain⟨sv,h1,h2,h3⟩:=ho;obtain⟨g,cap,rfl,_,_⟩:=HRow.slice h2 (by omega);obtain⟨v,hv,hr⟩:=h3 j hj;obtain⟨c0,c1,c2,c3,c4⟩:=aBK h1 hj hv;refine⟨g,cap,v,rfl,fun w hw=>?_⟩
 have hkq:∀ {e size n:Nat} {u:Value} {xs:List Value},HRow W0 base e size u n xs->HRow w base e size u n xs:=fun hr=>hr.of (fun q hq=>by
  obtain⟨q1,q2⟩:=HRow.lt hr q hq;exact hw q (hK q q1 q2))
 have h2':=hkq h2;have hr':=hkq hr;refine⟨⟨h2'.cell c0,h2'.cell c1,h2'.cell c2,h2'.cell c3,h2'.cell c4,(HRow.lt h2' g rfl).2⟩,hr',(InV.of_row hr' rfl).mono (fun q _ hq=>?_)⟩;obtain⟨q1,q2⟩:=HRow.lt hr q hq;exact hK q q1 q2
abbrev rowsN (tt:List RT):List (List R1):=tt.map (·.A)
section
variable {W:World} {b:Nat} {us:List T} {tt:List RT} {i:NI} {O:Nat->Nat}
theorem xY (h:DbN W b us tt i O) (hi:InvQ us) (hc1:∀ t∈us,t.cols.length<=1000) (hAl:∀ y∈tt,y.A.length<=100000) (x:ByteArray) (u:T3) :
  Calls Tryz.prog 87 #[.pointer (some ⟨b,0,none⟩),.string x,.agg #[.int .i64 (u.1),.int .i64 (u.2.1),.string (u.2.2)]] W fun e w'=>e=.returned (.tuple #[.int .i64 ((byKeyP us (rowsN tt) x u).getD 0),.bool (byKeyP us (rowsN tt) x u).isSome])/\Below W.heap.size W w':=by
 rcases bZ us x with ⟨h1,_,h3⟩ | ⟨j,hj,h1,_,h3⟩
 ·rw[nO (by omega)];exact kD h x u.1 u.2.1 u.2.2 (.inl (by omega))
 have hj':j<tt.length:=(by rw[h.n];exact hj);have hjr:j<(rowsN tt).length:=(by rw[List.length_map];exact hj');rw[pR hj hjr h1];by_cases hk:us[j].key=e0
 ·rw[if_pos hk];exact kD h x u.1 u.2.1 u.2.2 (.inr ⟨j,hj,h1,.inl hk⟩)
 rw[if_neg hk];by_cases hu:u.1=0
 ·rw[if_pos hu];exact kD h x u.1 u.2.1 u.2.2 (.inr ⟨j,hj,h1,.inr hu⟩)
 rw[if_neg hu];have hg:=hi.key _ (List.getElem_mem hj)
 have hc:hasC us[j].cols us[j].key=true:=by
  unfold keyGood at hg;rw[Bool.or_eq_true] at hg;rcases hg with hg|hg
  ·rw[eZ] at hg;exact absurd hg hk
  exact hg
 rcases cI us[j].cols us[j].key with ⟨_,h5,_⟩ | ⟨k,hk',h5,_⟩
 ·rw[h5] at hc;cases hc
 rw[h5]
 have:=xO h hj (List.getElem?_eq_getElem hj') h1 hk hk' h5 u.1 u.2.1 u.2.2 hu (hAl _ (List.getElem_mem hj')) (hc1 _ (List.getElem_mem hj))
 simpa only[Int.toNat_natCast,rowsN,List.getElem_map] using this
structure NVn where
 t:Nat
 k:Nat
 c:Nat
 gs:Nat
 cs:Nat
 go:Nat
 co:Nat
 gr:Nat
 na:Nat
 cr:Nat
 gv:Nat
 cv:Nat
 nc:Nat
 bc:Nat
 oc:Nat
 kc:Nat
 pd:Option Addr
 nd:Nat
 kd:Nat
 nm:ByteArray
 key:ByteArray
structure NV (w:World) (b mt:Nat) (id:Int) (y:ByteArray) (u:T3) (tg:ByteArray) (x:NVn):Prop where
 b0:w.cell? ⟨b,0,none⟩=some (.slice (some ⟨x.gs,0,none⟩) mt x.cs)
 b1:w.cell? ⟨b,1,none⟩=some (.slice (some ⟨x.go,0,none⟩) mt x.co)
 s0:w.cell? ⟨x.gs,x.t*4,none⟩=some (.string x.nm)
 s1:w.cell? ⟨x.gs,x.t*4+1,none⟩=some (.slice (some ⟨x.bc,x.oc,none⟩) x.nc x.kc)
 s2:w.cell? ⟨x.gs,x.t*4+2,none⟩=some (.string x.key)
 s3:w.cell? ⟨x.gs,x.t*4+3,none⟩=some (.slice x.pd x.nd x.kd)
 o0:w.cell? ⟨x.go,x.t,none⟩=some (.slice (some ⟨x.gr,0,none⟩) x.na x.cr)
 r0:w.cell? ⟨x.gr,x.k*2+1,none⟩=some (.slice (some ⟨x.gv,0,none⟩) x.nc x.cv)
 v0:w.cell? ⟨x.gv,x.c*3,none⟩=some (.int .i64 u.1)
 v1:w.cell? ⟨x.gv,x.c*3+1,none⟩=some (.int .i64 u.2.1)
 v2:w.cell? ⟨x.gv,x.c*3+2,none⟩=some (.string u.2.2)
 tg:w.cell? ⟨x.bc,x.oc+x.c*4+3,none⟩=some (.string tg)
 bl:b<w.heap.size
 sl:x.gs<w.heap.size
 ol:x.go<w.heap.size
 rl:x.gr<w.heap.size
 vl:x.gv<w.heap.size
 cl:x.bc<w.heap.size
 atc:Calls Tryz.prog 75 #[.pointer (some ⟨b,0,none⟩),.int .i64 (x.t:Int),.int .i64 id] w fun e w'=>e=.returned (.int .i64 (x.k:Int))/\w'=w
 col:Calls Tryz.prog 78 #[.agg #[.string x.nm,.slice (some ⟨x.bc,x.oc,none⟩) x.nc x.kc,.string x.key,.slice x.pd x.nd x.kd],.string y] w fun e w'=>e=.returned (.int .i64 (x.c:Int))/\Below w.heap.size w w'
end
abbrev zF:Array Value:=#[.int .i64 0,.int .i64 0,.string e0,.int .i64 0,.string e0]
abbrev fltV (e a:Int) (t:ByteArray) (r:Int) (c:ByteArray):Value:=.agg #[.int .i64 e,.int .i64 a,.string t,.int .i64 r,.string c]
theorem gS {x:World} {b:Nat} {a0 a1 a2 a3 a4:Value} {t:TypeId} (h:x.heap[b]?=some (.cells #[a0,a1,a2,a3,a4] t)) (a c d e f:Value) :
  (((((x.setCell ⟨b,0,none⟩ a).setCell ⟨b,1,none⟩ c).setCell ⟨b,2,none⟩ d).setCell ⟨b,3,none⟩ e).setCell ⟨b,4,none⟩ f).heap[b]?=some (.cells #[a,c,d,e,f] t):=by
 rw[heap_setCell_same _ b 4 #[a,c,d,e,a4] t f (heap_setCell_same _ b 3 #[a,c,d,a3,a4] t e (heap_setCell_same _ b 2 #[a,c,a2,a3,a4] t d (heap_setCell_same _ b 1 #[a,a1,a2,a3,a4] t c (heap_setCell_same _ b 0 #[a0,a1,a2,a3,a4] t a h))))];rfl
theorem aP {A w:World} {g:Nat} (h:A.grownBy w (some g)) (j:Nat) (a:Value):A.grownBy (w.setCell ⟨g,j,none⟩ a) (some g) :=
 ⟨h.os,h.tape,h.output,by simpa using h.size,fun q hq hne=>by
  rw[heap_setCell_other w ⟨g,j,none⟩ q a (fun e=>hne (by rw[e]))];exact h.block q hq hne⟩
theorem cK (w:World) (o:Option Nat):w.grownBy w o:=⟨rfl,rfl,rfl,Nat.le_refl _,fun _ _ _=>rfl⟩
theorem aW (w:World) (g:Nat) (a b c d e:Value):w.grownBy (((((w.setCell ⟨g,0,none⟩ a).setCell ⟨g,1,none⟩ b).setCell ⟨g,2,none⟩ c).setCell ⟨g,3,none⟩ d).setCell ⟨g,4,none⟩ e) (some g) :=
 aP (aP (aP (aP (aP (cK w (some g)) 0 a) 1 b) 2 c) 3 d) 4 e
theorem aFC (n:Int) (W:World):Calls Tryz.prog 123 #[.int .i64 n] W fun e w'=>e=.returned (Value.agg #[Value.int .i64 (1),Value.int .i64 (n),Value.string (e0)])/\Below W.heap.size W w':=by
 have hb1:=aD W (.cells #[.int .i64 0,.int .i64 0,.string e0] 32);have k1:=heap_alloc_new W (.cells #[.int .i64 0,.int .i64 0,.string e0] 32);obtain⟨w1,hw1⟩:∃ w1,W.alloc (.cells #[.int .i64 0,.int .i64 0,.string e0] 32)=w1:=⟨_,rfl⟩;obtain⟨B,hB⟩:∃ B,W.heap.size=B:=⟨_,rfl⟩;rw[hw1] at hb1 k1;rw[hB] at k1;have x0:=aA k1 0;have x1:=aA k1 1;have x2:=aA k1 2;have xf:=(fun i=>frozen_of_row w1 B i _ _ k1);have xl:=aC k1;have HW:=qAq (qBq hw1 (qBq hB (qBq hb1 k1)));clear hw1 hB hb1 k1;go_enter Tryz.func123,Tryz.ntmps123;go_upto_region 1 with fail;rw[HW.out.1,HW.out.2.1];go_wp2_with fail;generalize hwz:((World.setCell _ _ _).setCell _ _).setCell _ _=wz;have h3:=jT HW.out.2.2.2 (.int .i64 1) (.int .i64 n) (.string e0);have hbz:=bL HW.out.2.2.1 (Nat.le_of_eq HW.out.2.1) (.int .i64 1) (.int .i64 n) (.string e0);rw[hwz] at h3 hbz;have y0:=aA h3 0;have y1:=aA h3 1;have y2:=aA h3 2;refine bodyPost_ret (v:=(Value.agg #[Value.int .i64 (1),Value.int .i64 (n),Value.string (e0)])) (by simp[results,Tryz.results123,go_sem,y0,y1,y2]) rfl ?_;exact⟨rfl,hbz⟩
theorem uL (s:ByteArray) (W:World):Calls Tryz.prog 124 #[.string s] W fun e w'=>e=.returned (Value.agg #[Value.int .i64 (2),Value.int .i64 (0),Value.string (s)])/\Below W.heap.size W w':=by
 have hb1:=aD W (.cells #[.int .i64 0,.int .i64 0,.string e0] 32);have k1:=heap_alloc_new W (.cells #[.int .i64 0,.int .i64 0,.string e0] 32);obtain⟨w1,hw1⟩:∃ w1,W.alloc (.cells #[.int .i64 0,.int .i64 0,.string e0] 32)=w1:=⟨_,rfl⟩;obtain⟨B,hB⟩:∃ B,W.heap.size=B:=⟨_,rfl⟩;rw[hw1] at hb1 k1;rw[hB] at k1;have x0:=aA k1 0;have x1:=aA k1 1;have x2:=aA k1 2;have xf:=(fun i=>frozen_of_row w1 B i _ _ k1);have xl:=aC k1;have HW:=qAq (qBq hw1 (qBq hB (qBq hb1 k1)));clear hw1 hB hb1 k1;go_enter Tryz.func124,Tryz.ntmps124;go_upto_region 1 with fail;rw[HW.out.1,HW.out.2.1];go_wp2_with fail;generalize hwz:((World.setCell _ _ _).setCell _ _).setCell _ _=wz;have h3:=jT HW.out.2.2.2 (.int .i64 2) (.int .i64 0) (.string s);have hbz:=bL HW.out.2.2.1 (Nat.le_of_eq HW.out.2.1) (.int .i64 2) (.int .i64 0) (.string s);rw[hwz] at h3 hbz;have y0:=aA h3 0;have y1:=aA h3 1;have y2:=aA h3 2;refine bodyPost_ret (v:=(Value.agg #[Value.int .i64 (2),Value.int .i64 (0),Value.string (s)])) (by simp[results,Tryz.results124,go_sem,y0,y1,y2]) rfl ?_;exact⟨rfl,hbz⟩
theorem bR (e a r:Int) (t c:ByteArray) (W:World):Calls Tryz.prog 19 #[fltV e a t r c,fltV e a t r c] W fun x w'=>x=.returned (.bool true)/\Below W.heap.size W w':=by
 have hb1:=aD W (.cells #[.int .i64 e,.int .i64 a,.string t,.int .i64 r,.string c] 39);have k1:=heap_alloc_new W (.cells #[.int .i64 e,.int .i64 a,.string t,.int .i64 r,.string c] 39);have hb2:=aD (W.alloc (.cells #[.int .i64 e,.int .i64 a,.string t,.int .i64 r,.string c] 39)) (.cells #[.int .i64 e,.int .i64 a,.string t,.int .i64 r,.string c] 39);have k2:=heap_alloc_new (W.alloc (.cells #[.int .i64 e,.int .i64 a,.string t,.int .i64 r,.string c] 39)) (.cells #[.int .i64 e,.int .i64 a,.string t,.int .i64 r,.string c] 39);have k1:=aE hb2 k1;have hb2:=aB hb1 hb2;obtain⟨w2,hw2⟩:∃ w2,(W.alloc (.cells #[.int .i64 e,.int .i64 a,.string t,.int .i64 r,.string c] 39)).alloc (.cells #[.int .i64 e,.int .i64 a,.string t,.int .i64 r,.string c] 39)=w2:=⟨_,rfl⟩;obtain⟨B,hB⟩:∃ B,W.heap.size=B:=⟨_,rfl⟩;rw[World.size_alloc] at k2;rw[hw2] at k1 k2 hb2;rw[hB] at k1 k2;have x0:=aA k1 0;have x1:=aA k1 1;have x2:=aA k1 2;have x3:=aA k1 3;have x4:=aA k1 4;have xl:=aC k1;have y0:=aA k2 0;have y1:=aA k2 1;have y2:=aA k2 2;have y3:=aA k2 3;have y4:=aA k2 4;have yl:=aC k2;have e1:(e==e)=true:=beq_self_eq_true e;have e2:(a==a)=true:=beq_self_eq_true a;have e3:(r==r)=true:=beq_self_eq_true r;have e4:(t.data.toList==t.data.toList)=true:=beq_self_eq_true _;have e5:(c.data.toList==c.data.toList)=true:=beq_self_eq_true _;have HW:=qAq (qBq hw2 (qBq hB hb2));clear hw2 hB hb1 hb2 k1 k2;go_enter Tryz.func19,Tryz.ntmps19;go_upto_region 1 with fail;rw[HW.out.1,HW.out.2.1];go_wp2_with fail;go_ret;exact⟨by first|rfl|simp,HW.out.2.2⟩
theorem nX {W:World} {v1 v2:Value} {xs:List Int} (h1:Ro W 0 v1 xs) (h2:Ro W 0 v2 xs) (hl:xs.length<=1000):Calls Tryz.prog 54 #[v1,v2] W fun x w'=>x=.returned (.bool true)/\Below W.heap.size W w':=by
 obtain⟨n,hn⟩:∃ n,xs.length=n:=⟨_,rfl⟩;obtain⟨p,c,rfl,_,_⟩:=HRow.isslice h1;obtain⟨q,c',rfl,_,_⟩:=HRow.isslice h2
 have HX:Hid (∀ w,Below W.heap.size W w->∀ j (hj:j<xs.length),∃ g g',p=some ⟨g,0,none⟩/\q=some ⟨g',0,none⟩/\w.cell? ⟨g,j,none⟩=some (.int .i64 xs[j])/\w.cell? ⟨g',j,none⟩=some (.int .i64 xs[j])/\g<w.heap.size/\g'<w.heap.size):=qAq (fun w hb j hj=>by
  have k1:=HRow.later h1 hb;have k2:=HRow.later h2 hb;obtain⟨g,_,e,_,_⟩:=HRow.slice k1 (by omega);cases e;obtain⟨g',_,e,_,_⟩:=HRow.slice k2 (by omega);cases e;have e:(xs.map iv)[j]?=some (.int .i64 xs[j]):=(by rw[List.getElem?_map,List.getElem?_eq_getElem hj];rfl);exact⟨g,g',rfl,rfl,k1.cell e,k2.cell e,(HRow.lt k1 g rfl).2,(HRow.lt k2 g' rfl).2⟩)
 have HN:=qAq hn;have hni:(n:Int)<=1000:=(by omega);rw[hn];have e0':((n:Int) != (n:Int))=false:=(by simp);clear h1 h2 hl hn;go_enter Tryz.func54,Tryz.ntmps54;go_wp2_with fail;go_loopg [5] (n+1) (fun gh jv w=>∃ (j:Nat),jv=.int .i64 (j:Int)/\j<=n/\n+1<=j+gh/\Below W.heap.size W w)
 case atStart=>exact⟨0,rfl,Nat.zero_le _,by omega,Below.refl _ _⟩
 obtain⟨j,rfl,hj,hg,hB⟩:=hrel;by_cases hlt:j<n
 ·have hji:(j:Int)<(n:Int):=(by omega);have hjx:j<xs.length:=(by rw[HN.out];exact hlt);obtain⟨g,g',rfl,rfl,_⟩:=HX.out wr hB j hjx;obtain⟨x,hx⟩:∃ x,xs[j]=x:=⟨_,rfl⟩
  have HC:Hid (∀ w,Below wr.heap.size wr w->w.cell? ⟨g,j,none⟩=some (.int .i64 x)/\w.cell? ⟨g',j,none⟩=some (.int .i64 x)/\g<w.heap.size/\g'<w.heap.size):=qAq (fun w hw=>by
   obtain⟨g2,g3,e1,e2,k1,k2,k3,k4⟩:=HX.out w (aB hB hw) j hjx;cases e1;cases e2;rw[hx] at k1 k2;exact⟨k1,k2,k3,k4⟩)
  have HB:=qAq hB;have ex:(x != x)=false:=(by simp);clear hB hx;go_upto_region 6 with fail;refine Par.wp_region_par 9 [.slice (some ⟨g,0,none⟩) n c,.int .i64 (j:Int),.pointer (some ⟨g,j,none⟩),.int .i64 x,.slice (some ⟨g',0,none⟩) n c',.int .i64 (j:Int),.pointer (some ⟨g',j,none⟩),.int .i64 x,.bool false] (fun w=>Below wr.heap.size wr w) ?A1 ?hm1 ?hB1 ?hA1 ((aF wr)) ?hop1 ?hT1
  case hm1=>kernel_rfl
  case hB1=>kernel_rfl
  case hA1 =>
   simp only[Par.putA,Par.dstAt,Act.put,qDq,qEq,qFq,qLq,qGq,qHq,qIq,qJq,qKq];rfl
  case hop1 =>
   simp only[qMq,List.take_zero,Par.GiveAll,and_true];and_intros<;>intro w' hR<;>have HR:=qAq hR
   rotate_left 3;have z1:=(HC.out w' hR).1;rotate_left 4;have z1:=(HC.out w' hR).2.1;rotate_left 2
   all_goals(clear hR;simp only[Par.Gives];go_simp;all_goals exact HR.out)
  intro w' hR;simp only[qNq,List.drop_nil];have HR:=qAq (aB HB.out hR);clear hR;go_wp2_with fail;go_roundg (n-j)
  case measure=>omega
  exact⟨j+1,by go_num,by omega,by omega,HR.out⟩
 obtain rfl:j=n:=(by omega);have HB:=qAq hB;clear hB;go_wp2_with fail;go_ret;exact⟨rfl,HB.out⟩
