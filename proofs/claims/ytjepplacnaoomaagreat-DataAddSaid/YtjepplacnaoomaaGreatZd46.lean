import Derived.Test.YtjepplacnaoomaaGreatZd38
import Derived.Test.YtjepplacnaoomaaGreatZd20
import Derived.Test.YtjepplacnaoomaaGreatZd40
import Derived.Test.YtjepplacnaoomaaGreatZd12
import Derived.Test.YtjepplacnaoomaaGreatZd45
namespace Go.Proofs.YtjepplacnaoomaaGreat
open Go Go.RowKit Go.Proofs Co Co.S
theorem cut20_any (s : ByteArray) (w : World) : Calls Tryz.prog 45 #[.string s,.int .i64 20] w fun e w'=>e=.returned (.string (cutB 20 s))∧w'=w:=by
 unfold cutB
 by_cases h : 20<s.size
 ·rw [if_pos h]
  go_enter Tryz.func45,Tryz.ntmps45
  go_wp2
  go_ret
  exact ⟨rfl,rfl⟩
 ·rw [if_neg h]
  go_enter Tryz.func45,Tryz.ntmps45
  go_wp2
  go_ret
  exact ⟨rfl,rfl⟩
def cutC (c : C) : C:=⟨cutB 20 c.nm,c.kd,c.mu,cutB 20 c.tgt⟩
def cutD (d : D) : D:=⟨pathP d.left,cutB 20 d.right⟩
def cutTb (t : T) : T:=⟨cutB 20 t.nm,(t.cols.map cutC).take 8,cutB 20 t.key,(t.deps.map cutD).take 5⟩
theorem cutb_any (s : ByteArray) (w : World) {y : ByteArray} (h : cutB 20 s=y) : Calls Tryz.prog 45 #[.string s,.int .i64 20] w fun e w'=>e=.returned (.string y)∧Below w.heap.size w w' :=
 h ▸ (cut20_any s w).mono (fun _ _ h=>⟨h.1,h.2 ▸ Below.refl _ _⟩)
theorem app_atT {y : World} {base n g : Nat} {v : Value} {xs : List Value} {c : C} (hr : HRow y base 116 4 v n xs) (hn : n≤1000) (hb : base≤y.heap.size) (hC : y.heap[g]?=some (oC c)) :
  ∃ g' cap w',(Builtin.append_ #[43,43] 43 #[v,.slice (some ⟨g,0,none⟩) 1 1]).run Tryz.prog y=.ok (.slice (some ⟨g',0,none⟩) (n+1) cap) w' ∧
   HRow w' base 116 4 (.slice (some ⟨g',0,none⟩) (n+1) cap) (n+1) (xs ++ [.string c.nm,.int .i64 c.kd,.bool c.mu,.string c.tgt])∧y.grownBy w' v.ownBlock∧(v.ownBlock=some g'∨y.heap.size≤g'):=by
 obtain ⟨i0,hi0,hz0,hz1,hz2⟩:=info_parts infoCol
 exact run_append_has (P:=Tryz.prog) y base 43 43 116 i0 _ 4 48 Tryz.underlying43 hi0 hz0 hz1 hz2 rfl (by decide) hr ⟨g,0,none⟩ 1 1 [.string c.nm,.int .i64 c.kd,.bool c.mu,.string c.tgt] rfl (fun j u hj=>by
  rw [Addr.add_lit,Nat.zero_add,nd_cell hC]
  rw [List.getElem?_toArray]; exact hj) (by
  intro u hu
  simp only [List.mem_cons,List.not_mem_nil,or_false] at hu
  rcases hu with rfl | rfl | rfl | rfl <;> rfl) (by decide) (by unfold maxLen; omega) (by omega) hb
theorem app_dat {y : World} {base n g : Nat} {v : Value} {xs : List Value} {p : Option Addr} {m k : Nat} {r : ByteArray} (hr : HRow y base 135 2 v n xs) (hn : n≤1000) (hb : base≤y.heap.size) (hC : y.heap[g]?=some (.cells #[.slice p m k,.string r] 135)) :
  ∃ g' cap w',(Builtin.append_ #[44,44] 44 #[v,.slice (some ⟨g,0,none⟩) 1 1]).run Tryz.prog y=.ok (.slice (some ⟨g',0,none⟩) (n+1) cap) w' ∧
   HRow w' base 135 2 (.slice (some ⟨g',0,none⟩) (n+1) cap) (n+1) (xs ++ [.slice p m k,.string r])∧y.grownBy w' v.ownBlock∧(v.ownBlock=some g'∨y.heap.size≤g'):=by
 obtain ⟨i0,hi0,hz0,hz1,hz2⟩:=info_parts info53
 exact run_append_has (P:=Tryz.prog) y base 44 44 135 i0 _ 2 40 Tryz.underlying44 hi0 hz0 hz1 hz2 rfl (by decide) hr ⟨g,0,none⟩ 1 1 [.slice p m k,.string r] rfl (fun j u hj=>by
  rw [Addr.add_lit,Nat.zero_add,nd_cell hC]
  rw [List.getElem?_toArray]; exact hj) (by
  intro u hu
  simp only [List.mem_cons,List.not_mem_nil,or_false] at hu
  rcases hu with rfl | rfl <;> rfl) (by decide) (by unfold maxLen; omega) (by omega) hb
def lvW (B : Nat) (l : List ByteArray) : Par.VW:=⟨fun v w=>∃ p n c,v=.slice p n c∧n=(pathP l).length∧HRow w B 9 1 (.slice p n c) n (cellsS (pathP l)),fun v w w' h hb=>by
 obtain ⟨p,n,c,h1,h2,h3⟩:=h
 exact ⟨p,n,c,h1,h2,h3.later hb⟩⟩
def ldW (B : Nat) (l : List ByteArray) (r : ByteArray) : Par.VW:=⟨fun v w=>∃ p n c,v=.agg #[.slice p n c,.string r]∧n=(pathP l).length∧HRow w B 9 1 (.slice p n c) n (cellsS (pathP l)),fun v w w' h hb=>by
 obtain ⟨p,n,c,h1,h2,h3⟩:=h
 exact ⟨p,n,c,h1,h2,h3.later hb⟩⟩
def lsW (B : Nat) (l : List ByteArray) (r : ByteArray) : Par.VW:=⟨fun v w=>∃ g p n c,v=.slice (some ⟨g,0,none⟩) 1 1∧w.heap[g]?=some (.cells #[.slice p n c,.string r] 135)∧n=(pathP l).length∧HRow w B 9 1 (.slice p n c) n (cellsS (pathP l)),fun v w w' h hb=>by
 obtain ⟨g,p,n,c,h1,h0,h2,h3⟩:=h
 exact ⟨g,p,n,c,h1,heap_on hb h0,h2,h3.later hb⟩⟩
set_option maxRecDepth 100000 in
set_option maxHeartbeats 8000000 in
theorem table_any {t : T} {cv dv : Value} {W : World} (h : InT W cv dv t) : Calls Tryz.prog 71 #[.agg #[.string t.nm,cv,.string t.key,dv]] W fun e w'=>∃ p1 n1 c1 p2 n2 c2 ps,e=.returned (.agg #[.string (cutTb t).nm,.slice p1 n1 c1,.string (cutTb t).key,.slice p2 n2 c2]) ∧
  OwnT w' W.heap.size (.slice p1 n1 c1) (.slice p2 n2 c2) (cutTb t) ps∧Below W.heap.size W w':=by
 obtain ⟨pc,cc,hcv,hc,hm⟩:=InR.slice h.1
 obtain ⟨pd,cd,hdv,hc3,hm3⟩:=h.2.slice
 obtain ⟨n,hn⟩ : ∃ n,t.cols.length=n:=⟨_,rfl⟩
 obtain ⟨nd,hnd⟩ : ∃ n,t.deps.length=n:=⟨_,rfl⟩
 obtain ⟨S,hS⟩ : ∃ S,W.heap.size=S:=⟨_,rfl⟩
 unfold maxLen at hm hm3
 rw [hnd] at hdv hc3
 rw [hn] at hcv hc
 subst hcv hdv
 have hb1:=below_alloc W (boxT t.nm (.slice pc n cc) t.key (.slice pd nd cd))
 have hb2:=hb1.alloc hb1.size (boxT e0 (.slice none 0 0) e0 (.slice none 0 0))
 have k0:=alloc_old (u:=boxT e0 (.slice none 0 0) e0 (.slice none 0 0)) (heap_alloc_new W (boxT t.nm (.slice pc n cc) t.key (.slice pd nd cd)))
 have k1:=heap_alloc_new (W.alloc (boxT t.nm (.slice pc n cc) t.key (.slice pd nd cd))) (boxT e0 (.slice none 0 0) e0 (.slice none 0 0))
 rw [hS] at k0
 rw [World.size_alloc,hS] at k1
 have hsz : ((W.alloc (boxT t.nm (.slice pc n cc) t.key (.slice pd nd cd))).alloc (boxT e0 (.slice none 0 0) e0 (.slice none 0 0))).heap.size=S+2:=by rw [World.size_alloc,World.size_alloc,hS]
 obtain ⟨w0,hw0⟩ : ∃ w0,(W.alloc (boxT t.nm (.slice pc n cc) t.key (.slice pd nd cd))).alloc (boxT e0 (.slice none 0 0) e0 (.slice none 0 0))=w0:=⟨_,rfl⟩
 rw [hw0] at k0 k1 hb2 hsz
 have HW:=Lib.hid hw0
 have HS:=Lib.hid hS
 have HN:=Lib.hid (And.intro hn hnd)
 have HI:=Lib.hid h
 have H0:=Lib.hid (And.intro k0 (And.intro k1 (And.intro hb2 hsz)))
 obtain ⟨nm,hnm⟩ : ∃ x,cutB 20 t.nm=x:=⟨_,rfl⟩
 obtain ⟨key,hkey⟩ : ∃ x,cutB 20 t.key=x:=⟨_,rfl⟩
 have HNM:=Lib.hid (And.intro hnm hkey)
 clear h hn hnd hS hw0 hb1 hb2 k0 k1 hsz hnm hkey
 go_enter Tryz.func71,Tryz.ntmps71
 go_upto_region 1 with fail
 rw [HW.out,HS.out]
 refine Par.wp_region_par2 8 (fun w=>Below w0.heap.size w0 w) (Par.VL [(.eq (Value.pointer (some ⟨S,0,none⟩))),(.eq (.string t.nm)),(.eq (.string nm)),(.eq (Value.pointer (some ⟨S,2,none⟩))),(.eq (.string t.key)),(.eq (.string key)),(.eq (.agg #[.string nm,.slice none 0 0,.string key,.slice none 0 0])),(.objN w0.heap.size (fun g=>(Value.pointer (some ⟨g,0,none⟩))) (boxT e0 (.slice none 0 0) e0 (.slice none 0 0)))]) ?A1 ?hm1 ?hB1 (fun w w' h hb=>below_on h hb) (Par.VL.mono _) ?hA1 ((below_drew w0)) ?hop1 ?hT1
 case hm1=>kernel_rfl
 case hB1=>kernel_rfl
 case hA1 =>
  intro vs
  simp only [Par.putA,Par.dstAt,Act.put,List.getElem?_toArray,List.getElem?_cons_zero,List.getElem?_cons_succ,Option.bind_some,List.setIfInBounds_toArray,List.set_cons_zero,List.set_cons_succ]
  rfl
 case hop1 =>
  simp only [List.take_succ_cons,List.take_zero,Par.GiveAllV,and_true]
  refine ⟨fun vs w hK hd=>?_,fun vs w hK hd=>?_,fun vs w hK hd=>?_,fun vs w hK hd=>?_,fun vs w hK hd=>?_,fun vs w hK hd=>?_,fun vs w hK hd=>?_,fun vs w hK hd=>?_⟩
  ·clear hd
   simp only [Par.GivesV]
   go_simp
   all_goals exact ⟨rfl,Below.refl _ _⟩
  ·have d0:=hd 0 (by decide) (by kernel_rfl)
   replace d0 : vs 0=(Value.pointer (some ⟨S,0,none⟩)):=d0
   have k:=nd_cell (heap_on hK H0.out.1) 0
   clear hd
   simp only [Par.GivesV,d0]
   go_simp
   all_goals exact ⟨rfl,Below.refl _ _⟩
  ·have d1:=hd 1 (by decide) (by kernel_rfl)
   replace d1 : vs 1=(.string t.nm):=d1
   clear hd
   simp only [Par.GivesV,d1]
   go_simp
   exact (cutb_any t.nm w HNM.out.1).mono (fun e w'' h=>⟨_,h.1,⟨rfl,h.2⟩⟩)
  ·clear hd
   simp only [Par.GivesV]
   go_simp
   all_goals exact ⟨rfl,Below.refl _ _⟩
  ·have d3:=hd 3 (by decide) (by kernel_rfl)
   replace d3 : vs 3=(Value.pointer (some ⟨S,2,none⟩)):=d3
   have k:=nd_cell (heap_on hK H0.out.1) 2
   clear hd
   simp only [Par.GivesV,d3]
   go_simp
   all_goals exact ⟨rfl,Below.refl _ _⟩
  ·have d4:=hd 4 (by decide) (by kernel_rfl)
   replace d4 : vs 4=(.string t.key):=d4
   clear hd
   simp only [Par.GivesV,d4]
   go_simp
   exact (cutb_any t.key w HNM.out.2).mono (fun e w'' h=>⟨_,h.1,⟨rfl,h.2⟩⟩)
  ·have d2:=hd 2 (by decide) (by kernel_rfl)
   replace d2 : vs 2=(.string nm):=d2
   have d5:=hd 5 (by decide) (by kernel_rfl)
   replace d5 : vs 5=(.string key):=d5
   clear hd
   simp only [Par.GivesV,d2,d5]
   go_simp
   all_goals exact ⟨rfl,Below.refl _ _⟩
  ·clear hd
   simp only [Par.GivesV]
   go_simp
   exact ⟨⟨_,hK.size,rfl,heap_alloc_new w _⟩,below_alloc w _⟩
 case hT1 =>
  intro vs w' hK hV
  simp only [List.drop_succ_cons,List.drop_zero]
  have d0:=hV 0 (by decide)
  replace d0 : vs 0=(Value.pointer (some ⟨S,0,none⟩)):=d0
  have d1:=hV 1 (by decide)
  replace d1 : vs 1=(.string t.nm):=d1
  have d2:=hV 2 (by decide)
  replace d2 : vs 2=(.string nm):=d2
  have d3:=hV 3 (by decide)
  replace d3 : vs 3=(Value.pointer (some ⟨S,2,none⟩)):=d3
  have d4:=hV 4 (by decide)
  replace d4 : vs 4=(.string t.key):=d4
  have d5:=hV 5 (by decide)
  replace d5 : vs 5=(.string key):=d5
  have d6:=hV 6 (by decide)
  replace d6 : vs 6=(.agg #[.string nm,.slice none 0 0,.string key,.slice none 0 0]):=d6
  have d7:=hV 7 (by decide)
  clear hV
  simp only [d0,d1,d2,d3,d4,d5,d6]
  clear d0 d1 d2 d3 d4 d5 d6
  obtain ⟨TB,hTW,d7,hTB⟩:=d7
  rw [d7]
  clear d7
  have z0:=nd_cell hTB 0
  have z1:=nd_cell hTB 1
  have z2:=nd_cell hTB 2
  have z3:=nd_cell hTB 3
  have zf:=fun i=>frozen_of_row w' TB i _ _ hTB
  have zl:=lt_of_heap hTB
  have hT2 : S+2≤TB:=by rw [H0.out.2.2.2] at hTW; exact hTW
  have hb4:=below_set4 hK hTW (.string nm) (.slice none 0 0) (.string key) (.slice none 0 0)
  have hTI : TI S TB W t (.slice pc n cc) (.slice pd nd cd) nm key [] [] (.slice none 0 0) (.slice none 0 0) [] ((((w'.setCell ⟨TB,0,none⟩ (.string nm)).setCell ⟨TB,1,none⟩ (.slice none 0 0)).setCell ⟨TB,2,none⟩ (.string key)).setCell ⟨TB,3,none⟩ (.slice none 0 0)) :=
   ⟨heap_on hb4 H0.out.1,heap_on hb4 H0.out.2.1,set4 hTB _ _ _ _,HRow.nil,DepsI.nil _ _,HS.out ▸ below_on H0.out.2.2.1 hb4,hT2⟩
  have HTI:=Lib.hid hTI
  clear hTI hTB hTW hK hT2 hb4
  go_upto_region 2 with fail
  have HTI:=Lib.hid HTI.out
  clear z0 z1 z2 z3 zf zl
  obtain ⟨w1,hw1⟩ : ∃ w1,(((w'.setCell ⟨TB,0,none⟩ (.string nm)).setCell ⟨TB,1,none⟩ (.slice none 0 0)).setCell ⟨TB,2,none⟩ (.string key)).setCell ⟨TB,3,none⟩ (.slice none 0 0)=w1:=⟨_,rfl⟩
  rw [hw1] at HTI ⊢
  clear hw1
  go_upto_block 0 with fail
  go_cut [] from 300 to 300 (fun wx=>∃ (p1 : Option Addr) (n1 c1 : Nat),TI S TB W t (.slice pc n cc) (.slice pd nd cd) nm key ((t.cols.map cutC).take 8) [] (.slice p1 n1 c1) (.slice none 0 0) [] wx)
  case first =>
   go_wp2_with fail
   go_loopg [4] (n+1) (fun gh jv w=>∃ (j : Nat) (p1 : Option Addr) (c1 : Nat),jv=.int .i64 (j : Int)∧j≤n∧j≤8∧n+1≤j+gh∧TI S TB W t (.slice pc n cc) (.slice pd nd cd) nm key ((t.cols.map cutC).take j) [] (.slice p1 j c1) (.slice none 0 0) [] w)
   case atStart=>exact ⟨0,none,0,rfl,Nat.zero_le _,Nat.zero_le _,by omega,HTI.out⟩
   case round =>
    obtain ⟨j,p1,c1,rfl,hj,hj8,hg,hK⟩:=hrel
    have x1:=nd_cell hK.src 1
    have xl:=lt_of_heap hK.src
    by_cases hlt : j<n
    ·by_cases hlt8 : j<8
     ·have hjl : j<t.cols.length:=by rw [HN.out.1]; exact hlt
      obtain ⟨b,off,rfl,hb,g0,g1,g2,g3⟩:=InC.col (InC.on HI.out.1 (HS.out ▸ hK.below)) hjl
      obtain ⟨c,hcj⟩ : ∃ c,t.cols[j]=c:=⟨_,rfl⟩
      rw [hcj] at g0 g1 g2 g3
      have hlen : ((t.cols.map cutC).take j).length=j:=by rw [List.length_take,List.length_map,HN.out.1]; omega
      have htk : (t.cols.map cutC).take (j+1)=(t.cols.map cutC).take j ++ [cutC c]:=by rw [List.take_succ_eq_append_getElem (by simpa using hjl),List.getElem_map,hcj]
      have hnew:=heap_alloc_new wr (oC c)
      have hbn:=below_alloc wr (oC c)
      have K1:=Lib.hid (And.intro (hK.on hbn) (And.intro hnew (And.intro hlen htk)))
      obtain ⟨y1,hy1⟩ : ∃ x,cutB 20 c.nm=x:=⟨_,rfl⟩
      obtain ⟨y2,hy2⟩ : ∃ x,cutB 20 c.tgt=x:=⟨_,rfl⟩
      have HY:=Lib.hid (And.intro hy1 hy2)
      clear hK hcj hlen htk hnew hbn hy1 hy2
      go_upto_region 6 with fail
      obtain ⟨CB,hCB⟩ : ∃ x,wr.heap.size=x:=⟨_,rfl⟩
      obtain ⟨w2,hw2⟩ : ∃ x,wr.alloc (oC c)=x:=⟨_,rfl⟩
      rw [hw2,hCB] at K1 ⊢
      clear hw2 hCB x1 xl g0 g1 g2 g3 hb
      refine Par.wp_region_par2 14 (fun w=>Below w2.heap.size w2 w) (Par.VL [(.eq (Value.pointer (some ⟨TB,1,none⟩))),(.eq (.slice p1 j c1)),(.eq (Value.pointer (some ⟨CB,0,none⟩))),(.eq (.string c.nm)),(.eq (.string y1)),(.eq (Value.pointer (some ⟨CB,1,none⟩))),(.eq (.int .i64 c.kd)),(.eq (Value.pointer (some ⟨CB,2,none⟩))),(.eq (.bool c.mu)),(.eq (Value.pointer (some ⟨CB,3,none⟩))),(.eq (.string c.tgt)),(.eq (.string y2)),(.eq (.agg #[.string y1,.int .i64 c.kd,.bool c.mu,.string y2])),(.obj (fun g=>.slice (some ⟨g,0,none⟩) 1 1) (.cells #[.string y1,.int .i64 c.kd,.bool c.mu,.string y2] 116))]) ?A2 ?hm2 ?hB2 (fun w w' h hb=>below_on h hb) (Par.VL.mono _) ?hA2 ((below_drew w2)) ?hop2 ?hT2
      case hm2=>kernel_rfl
      case hB2=>kernel_rfl
      case hA2 =>
       intro vs
       simp only [Par.putA,Par.dstAt,Act.put,List.getElem?_toArray,List.getElem?_cons_zero,List.getElem?_cons_succ,Option.bind_some,List.setIfInBounds_toArray,List.set_cons_zero,List.set_cons_succ]
       rfl
      case hop2 =>
       simp only [List.take_succ_cons,List.take_zero,Par.GiveAllV,and_true]
       refine ⟨fun vs w hK hd=>?_,fun vs w hK hd=>?_,fun vs w hK hd=>?_,fun vs w hK hd=>?_,fun vs w hK hd=>?_,fun vs w hK hd=>?_,fun vs w hK hd=>?_,fun vs w hK hd=>?_,fun vs w hK hd=>?_,fun vs w hK hd=>?_,fun vs w hK hd=>?_,fun vs w hK hd=>?_,fun vs w hK hd=>?_,fun vs w hK hd=>?_⟩
       ·clear hd
        simp only [Par.GivesV]
        go_simp
        all_goals exact ⟨rfl,Below.refl _ _⟩
       ·have d0:=hd 0 (by decide) (by kernel_rfl)
        replace d0 : vs 0=(Value.pointer (some ⟨TB,1,none⟩)):=d0
        have k:=nd_cell (heap_on hK K1.out.1.box) 1
        clear hd
        simp only [Par.GivesV,d0]
        go_simp
        all_goals exact ⟨rfl,Below.refl _ _⟩
       ·clear hd
        simp only [Par.GivesV]
        go_simp
        all_goals exact ⟨rfl,Below.refl _ _⟩
       ·have d2:=hd 2 (by decide) (by kernel_rfl)
        replace d2 : vs 2=(Value.pointer (some ⟨CB,0,none⟩)):=d2
        have k:=nd_cell (heap_on hK K1.out.2.1) 0
        clear hd
        simp only [Par.GivesV,d2]
        go_simp
        all_goals exact ⟨rfl,Below.refl _ _⟩
       ·have d3:=hd 3 (by decide) (by kernel_rfl)
        replace d3 : vs 3=(.string c.nm):=d3
        clear hd
        simp only [Par.GivesV,d3]
        go_simp
        exact (cutb_any c.nm w HY.out.1).mono (fun e w'' h=>⟨_,h.1,⟨rfl,h.2⟩⟩)
       ·clear hd
        simp only [Par.GivesV]
        go_simp
        all_goals exact ⟨rfl,Below.refl _ _⟩
       ·have d5:=hd 5 (by decide) (by kernel_rfl)
        replace d5 : vs 5=(Value.pointer (some ⟨CB,1,none⟩)):=d5
        have k:=nd_cell (heap_on hK K1.out.2.1) 1
        clear hd
        simp only [Par.GivesV,d5]
        go_simp
        all_goals exact ⟨rfl,Below.refl _ _⟩
       ·clear hd
        simp only [Par.GivesV]
        go_simp
        all_goals exact ⟨rfl,Below.refl _ _⟩
       ·have d7:=hd 7 (by decide) (by kernel_rfl)
        replace d7 : vs 7=(Value.pointer (some ⟨CB,2,none⟩)):=d7
        have k:=nd_cell (heap_on hK K1.out.2.1) 2
        clear hd
        simp only [Par.GivesV,d7]
        go_simp
        all_goals exact ⟨rfl,Below.refl _ _⟩
       ·clear hd
        simp only [Par.GivesV]
        go_simp
        all_goals exact ⟨rfl,Below.refl _ _⟩
       ·have d9:=hd 9 (by decide) (by kernel_rfl)
        replace d9 : vs 9=(Value.pointer (some ⟨CB,3,none⟩)):=d9
        have k:=nd_cell (heap_on hK K1.out.2.1) 3
        clear hd
        simp only [Par.GivesV,d9]
        go_simp
        all_goals exact ⟨rfl,Below.refl _ _⟩
       ·have d10:=hd 10 (by decide) (by kernel_rfl)
        replace d10 : vs 10=(.string c.tgt):=d10
        clear hd
        simp only [Par.GivesV,d10]
        go_simp
        exact (cutb_any c.tgt w HY.out.2).mono (fun e w'' h=>⟨_,h.1,⟨rfl,h.2⟩⟩)
       ·have d4:=hd 4 (by decide) (by kernel_rfl)
        replace d4 : vs 4=(.string y1):=d4
        have d6:=hd 6 (by decide) (by kernel_rfl)
        replace d6 : vs 6=(.int .i64 c.kd):=d6
        have d8:=hd 8 (by decide) (by kernel_rfl)
        replace d8 : vs 8=(.bool c.mu):=d8
        have d11:=hd 11 (by decide) (by kernel_rfl)
        replace d11 : vs 11=(.string y2):=d11
        clear hd
        simp only [Par.GivesV,d4,d6,d8,d11]
        go_simp
        all_goals exact ⟨rfl,Below.refl _ _⟩
       ·have d12:=hd 12 (by decide) (by kernel_rfl)
        replace d12 : vs 12=(.agg #[.string y1,.int .i64 c.kd,.bool c.mu,.string y2]):=d12
        clear hd
        simp only [Par.GivesV,d12]
        go_simp
        exact ⟨⟨_,rfl,heap_alloc_new w _⟩,below_alloc w _⟩
      case hT2 =>
       intro vs w' hK hV
       simp only [List.drop_succ_cons,List.drop_zero]
       have d0:=hV 0 (by decide)
       replace d0 : vs 0=(Value.pointer (some ⟨TB,1,none⟩)):=d0
       have d1:=hV 1 (by decide)
       replace d1 : vs 1=(.slice p1 j c1):=d1
       have d2:=hV 2 (by decide)
       replace d2 : vs 2=(Value.pointer (some ⟨CB,0,none⟩)):=d2
       have d3:=hV 3 (by decide)
       replace d3 : vs 3=(.string c.nm):=d3
       have d4:=hV 4 (by decide)
       replace d4 : vs 4=(.string y1):=d4
       have d5:=hV 5 (by decide)
       replace d5 : vs 5=(Value.pointer (some ⟨CB,1,none⟩)):=d5
       have d6:=hV 6 (by decide)
       replace d6 : vs 6=(.int .i64 c.kd):=d6
       have d7:=hV 7 (by decide)
       replace d7 : vs 7=(Value.pointer (some ⟨CB,2,none⟩)):=d7
       have d8:=hV 8 (by decide)
       replace d8 : vs 8=(.bool c.mu):=d8
       have d9:=hV 9 (by decide)
       replace d9 : vs 9=(Value.pointer (some ⟨CB,3,none⟩)):=d9
       have d10:=hV 10 (by decide)
       replace d10 : vs 10=(.string c.tgt):=d10
       have d11:=hV 11 (by decide)
       replace d11 : vs 11=(.string y2):=d11
       have d12:=hV 12 (by decide)
       replace d12 : vs 12=(.agg #[.string y1,.int .i64 c.kd,.bool c.mu,.string y2]):=d12
       have d13:=hV 13 (by decide)
       clear hV
       simp only [d0,d1,d2,d3,d4,d5,d6,d7,d8,d9,d10,d11,d12]
       clear d0 d1 d2 d3 d4 d5 d6 d7 d8 d9 d10 d11 d12
       obtain ⟨g8,d13,hC⟩:=d13
       rw [d13]
       clear d13
       have KB:=K1.out.1.on hK
       have hrow:=KB.c
       rw [K1.out.2.2.1] at hrow
       obtain ⟨g,cap',w3,hrun,r3,g3,o3⟩:=app_atT (c:=⟨y1,c.kd,c.mu,y2⟩) hrow (by omega) KB.sz hC
       have hE:=KB.col (c:=cutC c) (cu':=.slice (some ⟨g,0,none⟩) (j+1) cap') (by rw [K1.out.2.2.1]; unfold cutC; rw [HY.out.1,HY.out.2]; exact r3) g3
       have hbx:=((below_row (n:=TB+1) hrow g3 (Nat.le_refl _) KB.sz).block TB (by omega)).trans KB.box
       have v1:=nd_cell hbx 1
       have vf:=frozen_of_row w3 TB 1 _ _ hbx
       have vl:=lt_of_heap hbx
       rw [← K1.out.2.2.2] at hE
       have HE2:=Lib.hid hE
       clear hE r3 g3 o3 KB hbx hC hrow
       go_wp2_with (at_builtin; refine wpList_append_run rfl (.tmp 31) (.tmp 43) 43 rfl rfl rfl hrun ?_)
       go_roundg (n - j)
       case measure=>omega
       case rel=>exact ⟨j+1,_,_,by go_num,by omega,by omega,by omega,HE2.out⟩
     ·obtain rfl : j=8:=by omega
      go_wp2_with fail
      go_meet
      exact ⟨p1,_,c1,hK⟩
    ·obtain rfl : j=n:=by omega
     go_wp2_with fail
     go_meet
     have e : (t.cols.map cutC).take 8=(t.cols.map cutC).take j:=by rw [List.take_of_length_le (by rw [List.length_map,HN.out.1]; exact hj8),List.take_of_length_le (by rw [List.length_map,HN.out.1]; exact Nat.le_refl _)]
     rw [e]
     exact ⟨p1,_,c1,hK⟩
  case rest =>
   obtain ⟨p1,n1,c1,hK⟩:=hcut
   have HK1:=Lib.hid hK
   clear hK HTI
   go_upto_block 2 with fail
   go_cut [] from 300 to 300 (fun wx=>∃ (p2 : Option Addr) (n2 c2 : Nat) (ps : List Value),TI S TB W t (.slice pc n cc) (.slice pd nd cd) nm key ((t.cols.map cutC).take 8) ((t.deps.map cutD).take 5) (.slice p1 n1 c1) (.slice p2 n2 c2) ps wx)
   case first =>
    go_wp2_with fail
    go_loopg [6] (nd+1) (fun gh jv w=>∃ (j : Nat) (p2 : Option Addr) (c2 : Nat) (ps : List Value),jv=.int .i64 (j : Int)∧j≤nd∧j≤5∧nd+1≤j+gh∧TI S TB W t (.slice pc n cc) (.slice pd nd cd) nm key ((t.cols.map cutC).take 8) ((t.deps.map cutD).take j) (.slice p1 n1 c1) (.slice p2 j c2) ps w)
    case atStart=>exact ⟨0,none,0,[],rfl,Nat.zero_le _,Nat.zero_le _,by omega,HK1.out⟩
    case round =>
     obtain ⟨j,p2,c2,ps,rfl,hj,hj5,hg,hK⟩:=hrel
     have x3:=nd_cell hK.src 3
     have xl:=lt_of_heap hK.src
     by_cases hlt : j<nd
     ·by_cases hlt5 : j<5
      ·have hjl : j<t.deps.length:=by rw [HN.out.2]; exact hlt
       obtain ⟨b,off,lv,rfl,hb,g0,g1,hlv⟩:=InD.dep (InD.on HI.out.2 (HS.out ▸ hK.below)) hjl
       obtain ⟨d,hdj⟩ : ∃ d,t.deps[j]=d:=⟨_,rfl⟩
       rw [hdj] at g1 hlv
       obtain ⟨pl,cl,rfl,_,_⟩:=InR.slice hlv
       obtain ⟨nl,hnl⟩ : ∃ m,d.left.length=m:=⟨_,rfl⟩
       rw [hnl] at g0 hlv
       have hlen : ((t.deps.map cutD).take j).length=j:=by rw [List.length_take,List.length_map,HN.out.2]; omega
       have htk : (t.deps.map cutD).take (j+1)=(t.deps.map cutD).take j ++ [cutD d]:=by rw [List.take_succ_eq_append_getElem (by simpa using hjl),List.getElem_map,hdj]
       obtain ⟨yr,hyr⟩ : ∃ x,cutB 20 d.right=x:=⟨_,rfl⟩
       have hji : (j : Int)<(nd : Int):=by omega
       have K1:=Lib.hid (And.intro hK (And.intro hlen (And.intro htk hyr)))
       have hpath:=fun (w : World) (hb : Below wr.heap.size wr w)=>path_any (InS.on hlv hb)
       have HPATH:=Lib.hid hpath
       clear hK hdj hlen htk hyr hlv hpath hb hnl
       go_upto_region 10 with fail
       clear x3 xl
       refine Par.wp_region_par2 18 (fun w=>Below wr.heap.size wr w) (Par.VL [(.eq (Value.pointer (some ⟨TB,3,none⟩))),(.eq (.slice p2 j c2)),(.eq (Value.pointer (some ⟨S,3,none⟩))),(.eq (.slice (some ⟨b,off,none⟩) nd cd)),(.eq (.int .i64 j)),(.eq (Value.pointer (some ⟨b,off+j*2,none⟩))),(.eq (Value.pointer (some ⟨b,off+j*2,none⟩))),(.eq (.slice pl nl cl)),((lvW wr.heap.size d.left)),(.eq (Value.pointer (some ⟨S,3,none⟩))),(.eq (.slice (some ⟨b,off,none⟩) nd cd)),(.eq (.int .i64 j)),(.eq (Value.pointer (some ⟨b,off+j*2,none⟩))),(.eq (Value.pointer (some ⟨b,off+j*2+1,none⟩))),(.eq (.string d.right)),(.eq (.string yr)),((ldW wr.heap.size d.left yr)),((lsW wr.heap.size d.left yr))]) ?A3 ?hm3 ?hB3 (fun w w' h hb=>below_on h hb) (Par.VL.mono _) ?hA3 ((below_drew wr)) ?hop3 ?hT3
       case hm3=>kernel_rfl
       case hB3=>kernel_rfl
       case hA3 =>
        intro vs
        simp only [Par.putA,Par.dstAt,Act.put,List.getElem?_toArray,List.getElem?_cons_zero,List.getElem?_cons_succ,Option.bind_some,List.setIfInBounds_toArray,List.set_cons_zero,List.set_cons_succ]
        rfl
       case hop3 =>
        simp only [List.take_succ_cons,List.take_zero,Par.GiveAllV,and_true]
        refine ⟨fun vs w hK hd=>?_,fun vs w hK hd=>?_,fun vs w hK hd=>?_,fun vs w hK hd=>?_,fun vs w hK hd=>?_,fun vs w hK hd=>?_,fun vs w hK hd=>?_,fun vs w hK hd=>?_,fun vs w hK hd=>?_,fun vs w hK hd=>?_,fun vs w hK hd=>?_,fun vs w hK hd=>?_,fun vs w hK hd=>?_,fun vs w hK hd=>?_,fun vs w hK hd=>?_,fun vs w hK hd=>?_,fun vs w hK hd=>?_,fun vs w hK hd=>?_⟩
        ·clear hd
         simp only [Par.GivesV]
         go_simp
         all_goals exact ⟨rfl,Below.refl _ _⟩
        ·have d0:=hd 0 (by decide) (by kernel_rfl)
         replace d0 : vs 0=(Value.pointer (some ⟨TB,3,none⟩)):=d0
         have k:=nd_cell (heap_on hK K1.out.1.box) 3
         clear hd
         simp only [Par.GivesV,d0]
         go_simp
         all_goals exact ⟨rfl,Below.refl _ _⟩
        ·clear hd
         simp only [Par.GivesV]
         go_simp
         all_goals exact ⟨rfl,Below.refl _ _⟩
        ·have d2:=hd 2 (by decide) (by kernel_rfl)
         replace d2 : vs 2=(Value.pointer (some ⟨S,3,none⟩)):=d2
         have k:=nd_cell (heap_on hK K1.out.1.src) 3
         clear hd
         simp only [Par.GivesV,d2]
         go_simp
         all_goals exact ⟨rfl,Below.refl _ _⟩
        ·clear hd
         simp only [Par.GivesV]
         go_simp
         all_goals exact ⟨rfl,Below.refl _ _⟩
        ·have d3:=hd 3 (by decide) (by kernel_rfl)
         replace d3 : vs 3=(.slice (some ⟨b,off,none⟩) nd cd):=d3
         have d4:=hd 4 (by decide) (by kernel_rfl)
         replace d4 : vs 4=(.int .i64 j):=d4
         clear hd
         simp only [Par.GivesV,d3,d4]
         go_simp
         all_goals exact ⟨rfl,Below.refl _ _⟩
        ·have d5:=hd 5 (by decide) (by kernel_rfl)
         replace d5 : vs 5=(Value.pointer (some ⟨b,off+j*2,none⟩)):=d5
         clear hd
         simp only [Par.GivesV,d5]
         go_simp
         all_goals exact ⟨rfl,Below.refl _ _⟩
        ·have d6:=hd 6 (by decide) (by kernel_rfl)
         replace d6 : vs 6=(Value.pointer (some ⟨b,off+j*2,none⟩)):=d6
         have k:=bel_cell hK g0
         clear hd
         simp only [Par.GivesV,d6]
         go_simp
         all_goals exact ⟨rfl,Below.refl _ _⟩
        ·have d7:=hd 7 (by decide) (by kernel_rfl)
         replace d7 : vs 7=(.slice pl nl cl):=d7
         clear hd
         simp only [Par.GivesV,d7]
         go_simp
         exact (HPATH.out w hK).mono (fun e w'' h=>by obtain ⟨p,n,c,he,hn,hr,hb⟩:=h; exact ⟨_,he,⟨p,n,c,rfl,hn,hr.mono hK.size⟩,hb⟩)
        ·clear hd
         simp only [Par.GivesV]
         go_simp
         all_goals exact ⟨rfl,Below.refl _ _⟩
        ·have d9:=hd 9 (by decide) (by kernel_rfl)
         replace d9 : vs 9=(Value.pointer (some ⟨S,3,none⟩)):=d9
         have k:=nd_cell (heap_on hK K1.out.1.src) 3
         clear hd
         simp only [Par.GivesV,d9]
         go_simp
         all_goals exact ⟨rfl,Below.refl _ _⟩
        ·clear hd
         simp only [Par.GivesV]
         go_simp
         all_goals exact ⟨rfl,Below.refl _ _⟩
        ·have d10:=hd 10 (by decide) (by kernel_rfl)
         replace d10 : vs 10=(.slice (some ⟨b,off,none⟩) nd cd):=d10
         have d11:=hd 11 (by decide) (by kernel_rfl)
         replace d11 : vs 11=(.int .i64 j):=d11
         clear hd
         simp only [Par.GivesV,d10,d11]
         go_simp
         all_goals exact ⟨rfl,Below.refl _ _⟩
        ·have d12:=hd 12 (by decide) (by kernel_rfl)
         replace d12 : vs 12=(Value.pointer (some ⟨b,off+j*2,none⟩)):=d12
         clear hd
         simp only [Par.GivesV,d12]
         go_simp
         all_goals exact ⟨rfl,Below.refl _ _⟩
        ·have d13:=hd 13 (by decide) (by kernel_rfl)
         replace d13 : vs 13=(Value.pointer (some ⟨b,off+j*2+1,none⟩)):=d13
         have k:=bel_cell hK g1
         clear hd
         simp only [Par.GivesV,d13]
         go_simp
         all_goals exact ⟨rfl,Below.refl _ _⟩
        ·have d14:=hd 14 (by decide) (by kernel_rfl)
         replace d14 : vs 14=(.string d.right):=d14
         clear hd
         simp only [Par.GivesV,d14]
         go_simp
         exact (cutb_any d.right w K1.out.2.2.2).mono (fun e w'' h=>⟨_,h.1,⟨rfl,h.2⟩⟩)
        ·have d8:=hd 8 (by decide) (by kernel_rfl)
         have d15:=hd 15 (by decide) (by kernel_rfl)
         replace d15 : vs 15=(.string yr):=d15
         obtain ⟨p,n,c,d8,hn,hr⟩:=d8
         have HRR:=Lib.hid hr
         have HNN:=Lib.hid hn
         clear hr hn
         clear hd
         simp only [Par.GivesV,d15]
         go_simp
         exact ⟨⟨p,n,c,rfl,HNN.out,HRR.out⟩,Below.refl _ _⟩
        ·have d16:=hd 16 (by decide) (by kernel_rfl)
         obtain ⟨p,n,c,d16,hn,hr⟩:=d16
         have HRR:=Lib.hid hr
         have HNN:=Lib.hid hn
         clear hr hn
         clear hd
         simp only [Par.GivesV]
         go_simp
         exact ⟨⟨_,p,n,c,rfl,heap_alloc_new w _,HNN.out,HRR.out.later (below_alloc w _)⟩,below_alloc w _⟩
       case hT3 =>
        intro vs w' hK hV
        simp only [List.drop_succ_cons,List.drop_zero]
        have d0:=hV 0 (by decide)
        replace d0 : vs 0=(Value.pointer (some ⟨TB,3,none⟩)):=d0
        have d1:=hV 1 (by decide)
        replace d1 : vs 1=(.slice p2 j c2):=d1
        have d2:=hV 2 (by decide)
        replace d2 : vs 2=(Value.pointer (some ⟨S,3,none⟩)):=d2
        have d3:=hV 3 (by decide)
        replace d3 : vs 3=(.slice (some ⟨b,off,none⟩) nd cd):=d3
        have d4:=hV 4 (by decide)
        replace d4 : vs 4=(.int .i64 j):=d4
        have d5:=hV 5 (by decide)
        replace d5 : vs 5=(Value.pointer (some ⟨b,off+j*2,none⟩)):=d5
        have d6:=hV 6 (by decide)
        replace d6 : vs 6=(Value.pointer (some ⟨b,off+j*2,none⟩)):=d6
        have d7:=hV 7 (by decide)
        replace d7 : vs 7=(.slice pl nl cl):=d7
        have d8:=hV 8 (by decide)
        have d9:=hV 9 (by decide)
        replace d9 : vs 9=(Value.pointer (some ⟨S,3,none⟩)):=d9
        have d10:=hV 10 (by decide)
        replace d10 : vs 10=(.slice (some ⟨b,off,none⟩) nd cd):=d10
        have d11:=hV 11 (by decide)
        replace d11 : vs 11=(.int .i64 j):=d11
        have d12:=hV 12 (by decide)
        replace d12 : vs 12=(Value.pointer (some ⟨b,off+j*2,none⟩)):=d12
        have d13:=hV 13 (by decide)
        replace d13 : vs 13=(Value.pointer (some ⟨b,off+j*2+1,none⟩)):=d13
        have d14:=hV 14 (by decide)
        replace d14 : vs 14=(.string d.right):=d14
        have d15:=hV 15 (by decide)
        replace d15 : vs 15=(.string yr):=d15
        have d16:=hV 16 (by decide)
        have d17:=hV 17 (by decide)
        clear hV
        simp only [d0,d1,d2,d3,d4,d5,d6,d7,d9,d10,d11,d12,d13,d14,d15]
        clear d0 d1 d2 d3 d4 d5 d6 d7 d9 d10 d11 d12 d13 d14 d15
        obtain ⟨g8,p3,n3,c3,d17,hC,hn3,hl3⟩:=d17
        rw [d17]
        clear d17 d16 d8
        have KB:=K1.out.1.on hK
        have hrow:=KB.d.d
        rw [K1.out.2.1] at hrow
        obtain ⟨g,cap',w3,hrun,r3,g3,o3⟩:=app_dat hrow (by omega) KB.sz hC
        have hwT : TB+1≤wr.heap.size:=K1.out.1.sz
        have hE:=KB.dep (d:=cutD d) (du':=.slice (some ⟨g,0,none⟩) (j+1) cap') (lv:=.slice p3 n3 c3) (by
         have:=hl3.mono hwT
         rw [hn3] at this ⊢
         exact this) (by rw [K1.out.2.1]; unfold cutD; rw [K1.out.2.2.2]; exact r3) g3
        have hbx:=((below_row (n:=TB+1) hrow g3 (Nat.le_refl _) KB.sz).block TB (by omega)).trans KB.box
        have v3:=nd_cell hbx 3
        have vf:=frozen_of_row w3 TB 3 _ _ hbx
        have vl:=lt_of_heap hbx
        rw [← K1.out.2.2.1] at hE
        have HE2:=Lib.hid hE
        clear hE r3 g3 o3 KB hbx hC hrow hl3 hn3
        go_wp2_with (at_builtin; refine wpList_append_run rfl (.tmp 58) (.tmp 74) 44 rfl rfl rfl hrun ?_)
        go_roundg (nd - j)
        case measure=>omega
        case rel=>exact ⟨j+1,_,_,_,by go_num,by omega,by omega,by omega,HE2.out⟩
      ·obtain rfl : j=5:=by omega
       go_wp2_with fail
       go_meet
       exact ⟨p2,_,c2,ps,hK⟩
     ·obtain rfl : j=nd:=by omega
      go_wp2_with fail
      go_meet
      have e : (t.deps.map cutD).take 5=(t.deps.map cutD).take j:=by rw [List.take_of_length_le (by rw [List.length_map,HN.out.2]; exact hj5),List.take_of_length_le (by rw [List.length_map,HN.out.2]; exact Nat.le_refl _)]
      rw [e]
      exact ⟨p2,_,c2,ps,hK⟩
   case rest =>
    obtain ⟨p2,n2,c2,ps,hK⟩:=hcut
    have hbox:=hK.box
    have hres:=hK.res
    have z0:=nd_cell hbox 0
    have z1:=nd_cell hbox 1
    have z2:=nd_cell hbox 2
    have z3:=nd_cell hbox 3
    have zl:=lt_of_heap hbox
    have r0:=nd_cell hres 0
    have r1:=nd_cell hres 1
    have r2:=nd_cell hres 2
    have r3:=nd_cell hres 3
    have rf:=fun i=>frozen_of_row wc (S+1) i _ _ hres
    have rl:=lt_of_heap hres
    have HK:=Lib.hid hK
    clear hK hbox hres HK1
    go_wp2_with fail
    have hS4:=set4 HK.out.res (.string nm) (.slice p1 n1 c1) (.string key) (.slice p2 n2 c2)
    have hBx:=below_set4 HK.out.below (show S≤S+1 by omega) (.string nm) (.slice p1 n1 c1) (.string key) (.slice p2 n2 c2)
    have ho : ∀ q : Nat,TB+1≤q→((((wc.setCell ⟨S+1,0,none⟩ (.string nm)).setCell ⟨S+1,1,none⟩ (.slice p1 n1 c1)).setCell ⟨S+1,2,none⟩ (.string key)).setCell ⟨S+1,3,none⟩ (.slice p2 n2 c2)).heap[q]?=wc.heap[q]?:=fun q h=>set4_other wc (S+1) q (by have:=HK.out.hT; omega) _ _ _ _
    generalize (((wc.setCell _ _).setCell _ _).setCell _ _).setCell _ _=wz at hS4 hBx ho ⊢
    have y0:=nd_cell hS4 0
    have y1:=nd_cell hS4 1
    have y2:=nd_cell hS4 2
    have y3:=nd_cell hS4 3
    refine bodyPost_ret (v:=.agg #[.string nm,.slice p1 n1 c1,.string key,.slice p2 n2 c2]) (by simp [results,Tryz.results71,go_sem,y0,y1,y2,y3]) rfl ?_
    have hOwn : OwnT wc (TB+1) (.slice p1 n1 c1) (.slice p2 n2 c2) (cutTb t) ps:=⟨HK.out.c,HK.out.d.n,HK.out.d.d,HK.out.d.l⟩
    have hOwn2:=hOwn.of ho
    have hle : W.heap.size≤TB+1:=by rw [HS.out]; have:=HK.out.hT; omega
    have e1 : (cutTb t).nm=nm:=HNM.out.1
    have e2 : (cutTb t).key=key:=HNM.out.2
    rw [e1,e2]
    exact ⟨_,_,_,_,_,_,ps,rfl,⟨hOwn2.c.mono hle,hOwn2.n,hOwn2.d.mono hle,fun a b c=>(hOwn2.l a b c).mono hle⟩,HS.out ▸ hBx⟩
section
variable {B : Nat} {w w' : World} {us : List T} {v : Value} {xs : List Value}
theorem TR.app (h : TR B us v xs w) {t : T} {p1 p2 : Option Addr} {n1 c1 n2 c2 ty : Nat} {nm key : ByteArray} (hn : t.nm=nm) (hk : t.key=key) (ht : RdT w (.slice p1 n1 c1) (.slice p2 n2 c2) t) (hl : us.length≤1000) (hty : Tryz.prog.underlying ty=some (.slice 46)) :
  ∃ g cap w',(Builtin.append_ #[ty,ty] ty #[v,.slice (some ⟨w.heap.size,0,none⟩) 1 1]).run Tryz.prog (w.alloc (boxT nm (.slice p1 n1 c1) key (.slice p2 n2 c2)))=.ok (.slice (some ⟨g,0,none⟩) (us.length+1) cap) w' ∧
   TR B (us ++ [t]) (.slice (some ⟨g,0,none⟩) (us.length+1) cap) (xs ++ [.string nm,.slice p1 n1 c1,.string key,.slice p2 n2 c2]) w'∧Below B w w':=by
 subst hn hk
 obtain ⟨g,cap,w',h1,h2,h3,h4⟩:=app_one (ty:=ty) hty infoT46 (by kernel_rfl) (by decide) (by decide) w B h.row (by omega) h.sz #[.string t.nm,.slice p1 n1 c1,.string t.key,.slice p2 n2 c2] rfl (by
  intro u hu
  simp only [List.mem_cons,List.not_mem_nil,or_false] at hu
  rcases hu with rfl | rfl | rfl | rfl <;> rfl)
 have hk:=(Tn.of_chg (S:=fun q=>v.ownBlock=some q) (W:=w) (W':=w') ⟨h3.os,h3.tape,h3.output,h3.size,fun q hq hn=>h3.block q hq (fun e=>hn e.symm)⟩ (fun q _ hq=>.inl (by
  obtain ⟨_,cur,hb⟩:=h.row.block q hq
  exact ⟨cur,46,hb,rfl⟩))).kpX
 have hbel : Below B w w':=below_row h.row h3 (Nat.le_refl _) h.sz
 exact ⟨g,cap,w',h1,⟨by rw [List.length_append]; exact h2,(h.tabs.kp hk).snoc (ht.kp hk),Nat.le_trans h.sz hbel.size⟩,hbel⟩
end
set_option maxRecDepth 100000 in
set_option maxHeartbeats 4000000 in
theorem tables_any {l : List T} {v : Value} {W : World} (h : InTs W v l) : Calls Tryz.prog 27 #[v] W fun e w'=>∃ p n c xs,e=.returned (.slice p n c)∧TR W.heap.size ((l.map cutTb).take 12) (.slice p n c) xs w'∧n=((l.map cutTb).take 12).length∧Below W.heap.size W w':=by
 obtain ⟨p,cap,rfl,hc,hm⟩:=h.slice
 obtain ⟨n,hn⟩ : ∃ n,l.length=n:=⟨_,rfl⟩
 unfold maxLen at hm
 rw [hn] at hc h ⊢
 have HR:=Lib.hid h
 have HN:=Lib.hid hn
 clear h hn
 go_enter Tryz.func27,Tryz.ntmps27
 go_wp2_with fail
 go_loopg [3,4] (n+1) (fun gh rv jv w=>∃ (j : Nat) (q : Option Addr) (cq : Nat) (xs : List Value),jv=.int .i64 (j : Int)∧j≤n∧j≤12∧n+1≤j+gh∧rv=.slice q j cq∧TR W.heap.size ((l.map cutTb).take j) (.slice q j cq) xs w∧Below W.heap.size W w)
 case atStart=>exact ⟨0,none,0,[],rfl,Nat.zero_le _,Nat.zero_le _,by omega,rfl,TR.nil (Nat.le_refl _),Below.refl _ _⟩
 case round =>
  obtain ⟨j,q,cq,xs,rfl,hj,hj6,hg,rfl,hR,hB⟩:=hrel
  have HI:=Lib.hid (And.intro hR hB)
  by_cases hlt : j<n
  ·by_cases hlt6 : j<12
   ·have hjl : j<l.length:=by rw [HN.out]; exact hlt
    obtain ⟨b,off,cv,dv,rfl,hb,c0,c1,c2,c3,hT⟩:=InTs.tab (HR.out.on hB) hjl
    obtain ⟨t,ht⟩ : ∃ t,l[j]=t:=⟨_,rfl⟩
    rw [ht] at c0 c2 hT
    have hlen : ((l.map cutTb).take j).length=j:=by rw [List.length_take,List.length_map,HN.out]; omega
    have htk : (l.map cutTb).take (j+1)=(l.map cutTb).take j ++ [cutTb t]:=by rw [List.take_succ_eq_append_getElem (by simpa using hjl),List.getElem_map,ht]
    have hcall:=table_any hT
    obtain ⟨u,hu⟩ : ∃ u,cutTb t=u:=⟨_,rfl⟩
    rw [hu] at hcall htk
    obtain ⟨nm,hnm⟩ : ∃ x,u.nm=x:=⟨_,rfl⟩
    obtain ⟨key,hkey⟩ : ∃ x,u.key=x:=⟨_,rfl⟩
    rw [hnm,hkey] at hcall
    have HU:=Lib.hid (And.intro hnm (And.intro hkey (And.intro hlen htk)))
    clear hR hB ht hT hu hnm hkey hlen htk hb
    have hapA : ∀ (w2 : World) (p1 : Option Addr) (n1 c1 : Nat) (p2 : Option Addr) (n2 c2 : Nat) (ps : List Value),OwnT w2 wr.heap.size (.slice p1 n1 c1) (.slice p2 n2 c2) u ps→Below wr.heap.size wr w2→∃ g cap' w3,(Builtin.append_ #[37,37] 37 #[.slice q j cq,.slice (some ⟨w2.heap.size,0,none⟩) 1 1]).run Tryz.prog (w2.alloc (boxT nm (.slice p1 n1 c1) key (.slice p2 n2 c2)))=.ok (.slice (some ⟨g,0,none⟩) (j+1) cap') w3∧∃ xs',TR W.heap.size ((l.map cutTb).take (j+1)) (.slice (some ⟨g,0,none⟩) (j+1) cap') xs' w3∧Below W.heap.size W w3:=fun w2 p1 n1 c1 p2 n2 c2 ps hO hb2=>by
     obtain ⟨g,cap',w3,hrun,h3,hb3⟩:=(HI.out.1.on hb2).app HU.out.1 HU.out.2.1 hO.rd (by rw [HU.out.2.2.1]; omega) Tryz.underlying37
     rw [HU.out.2.2.1] at hrun h3
     rw [← HU.out.2.2.2] at h3
     exact ⟨g,cap',w3,hrun,_,h3,below_on HI.out.2 hb2 |>.trans hb3⟩
    have HAP:=Lib.hid hapA
    clear hapA
    go_wp2_with (first
     | (at_builtin; refine wpList_append_run rfl (.tmp 15) (.tmp 21) 37 rfl rfl rfl hrun ?_)
     | (go_at_call 71; (with_reducible refine hcall.mono ?_); rintro e w2 ⟨p1,n1,c1,p2,n2,c2,ps,rfl,hO,hb2⟩; obtain ⟨g,cap',w3,hrun,xs',h3,hb3⟩:=HAP.out w2 p1 n1 c1 p2 n2 c2 ps hO hb2; have H3:=Lib.hid (And.intro h3 hb3); clear hO hb2 h3 hb3 hcall))
    go_roundg (n - j)
    case measure=>omega
    case rel=>exact ⟨j+1,_,_,_,by go_num,by omega,by omega,by omega,rfl,H3.out.1,H3.out.2⟩
   ·obtain rfl : j=12:=by omega
    clear hR hB
    go_wp2_with fail
    go_ret
    exact ⟨_,_,_,_,rfl,HI.out.1,by rw [List.length_take,List.length_map,HN.out]; omega,HI.out.2⟩
  ·obtain rfl : j=n:=by omega
   clear hR hB
   go_wp2_with fail
   go_ret
   have e : (l.map cutTb).take 12=(l.map cutTb).take j:=by rw [List.take_of_length_le (by rw [List.length_map,HN.out]; exact hj6),List.take_of_length_le (by rw [List.length_map,HN.out]; exact Nat.le_refl _)]
   exact ⟨_,_,_,_,rfl,by rw [e]; exact HI.out.1,by rw [e,List.length_take,List.length_map,HN.out]; omega,HI.out.2⟩
end Go.Proofs.YtjepplacnaoomaaGreat
