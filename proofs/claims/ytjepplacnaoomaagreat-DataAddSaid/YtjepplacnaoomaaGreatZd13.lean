import Derived.Test.YtjepplacnaoomaaGreatZd11
import Derived.Test.YtjepplacnaoomaaGreatZd12
namespace Go.Proofs.YtjepplacnaoomaaGreat.Co.S
open Go Go.RowKit Go.Shelf Go.Proofs Go.Proofs.YtjepplacnaoomaaGreat Go.Proofs.YtjepplacnaoomaaGreat.Co
section
variable {cb : Nat} {kind n : Int} {v : Value} {L : List (K 12×Int)} {W0 W W' : World}
def inC (kind : Int) (x : T3) : Bool:=mayV x.1 x.2.1 x.2.2.data.toList && (decide (x.1=0) || decide (x.1=kind))
set_option maxRecDepth 100000 in
set_option maxHeartbeats 2000000 in
theorem takes_any (h : Cm cb kind v n L W0 W) (k n1 : Int) (s : ByteArray) (hs : s.size≤maxLen) : Calls Tryz.prog 113 #[(Value.pointer (some ⟨cb,0,none⟩)),(Value.agg #[Value.int .i64 (k),Value.int .i64 (n1),Value.string (s)])] W fun e w'=>e=.returned (.bool (inC kind (k,n1,s)))∧Below W.heap.size W w':=by
 have c0:=h.c0
 have hlt:=h.lt
 have hnew:=heap_alloc_new W (.cells #[.int .i64 k,.int .i64 n1,.string s] 26)
 have hbel:=below_alloc W (.cells #[.int .i64 k,.int .i64 n1,.string s] 26)
 obtain ⟨B,hB⟩ : ∃ B,W.heap.size=B:=⟨_,rfl⟩
 have hmay:=fun w=>may_any k n1 s w hs
 rw [hB] at hnew hbel hlt ⊢
 have hK : (fun w=>w.cell? ⟨B,0,none⟩=some (.int .i64 k)∧w.cell? ⟨B,1,none⟩=some (.int .i64 n1)∧w.cell? ⟨B,2,none⟩=some (.string s)∧w.cell? ⟨cb,0,none⟩=some (.int .i64 kind)∧Below B W w∧B<w.heap.size) (W.alloc (.cells #[.int .i64 k,.int .i64 n1,.string s] 26)).drew :=
  ⟨nd_cell hnew 0,nd_cell hnew 1,nd_cell hnew 2,(World.cell?_of_block (w:=W) (hbel.block cb hlt)).trans c0,hbel.drew,by show B<(W.alloc _).heap.size; simp; omega⟩
 have keep : ∀ (w w'' : World),(w.cell? ⟨B,0,none⟩=some (.int .i64 k)∧w.cell? ⟨B,1,none⟩=some (.int .i64 n1)∧w.cell? ⟨B,2,none⟩=some (.string s)∧w.cell? ⟨cb,0,none⟩=some (.int .i64 kind)∧Below B W w∧B<w.heap.size)→Below w.heap.size w w'' →
   (w''.cell? ⟨B,0,none⟩=some (.int .i64 k)∧w''.cell? ⟨B,1,none⟩=some (.int .i64 n1)∧w''.cell? ⟨B,2,none⟩=some (.string s)∧w''.cell? ⟨cb,0,none⟩=some (.int .i64 kind)∧Below B W w''∧B<w''.heap.size):=fun w w'' ⟨h0,h1,h2,h3,h4,h5⟩ hb =>
  ⟨(World.cell?_of_block (w:=w) (hb.block B h5)).trans h0,(World.cell?_of_block (w:=w) (hb.block B h5)).trans h1,(World.cell?_of_block (w:=w) (hb.block B h5)).trans h2,(World.cell?_of_block (w:=w) (hb.block cb (by omega))).trans h3,h4.trans (hb.mono (by omega)),by have:=hb.size; omega⟩
 have HK:=Lib.hid hK
 clear hnew hbel hK
 unfold inC
 simp only
 generalize mayV k n1 s.data.toList=may at hmay ⊢
 cases may with
 | false =>
  simp only [Bool.false_and]
  go_enter Tryz.func113,Tryz.ntmps113
  go_wp2_with fail
  refine Par.wp_region_par 21 [.pointer (some ⟨cb,0,none⟩),.bool true,.bool true,.agg #[.int .i64 k,.int .i64 n1,.string s],.bool false,.bool false,.bool false,undef,undef,undef,undef,undef,undef,undef,undef,undef,undef,undef,undef,.bool false,.bool false] (fun w=>w.cell? ⟨B,0,none⟩=some (.int .i64 k)∧w.cell? ⟨B,1,none⟩=some (.int .i64 n1)∧w.cell? ⟨B,2,none⟩=some (.string s)∧w.cell? ⟨cb,0,none⟩=some (.int .i64 kind)∧Below B W w∧B<w.heap.size) ?A1 ?hm1 ?hB1 ?hA1 HK.out ?hop1 ?hT1
  case hm1=>kernel_rfl
  case hB1=>kernel_rfl
  case hA1 =>
   simp only [Par.putA,Par.dstAt,Act.put,List.getElem?_toArray,List.getElem?_cons_zero,List.getElem?_cons_succ,Option.bind_some,List.setIfInBounds_toArray,List.set_cons_zero,List.set_cons_succ,List.getD_cons_zero,List.getD_cons_succ]
   rfl
  case hop1 =>
   simp only [List.take_succ_cons,List.take_zero,Par.GiveAll,and_true]
   refine ⟨fun w' hR=>?_,fun w' hR=>?_,fun w' hR=>?_,fun w' hR=>?_,fun w' hR=>?_,fun w' hR=>?_,fun w' hR=>?_,fun w' hR=>?_,fun w' hR=>?_,fun w' hR=>?_,fun w' hR=>?_,fun w' hR=>?_,fun w' hR=>?_,fun w' hR=>?_,fun w' hR=>?_,fun w' hR=>?_,fun w' hR=>?_,fun w' hR=>?_,fun w' hR=>?_,fun w' hR=>?_,fun w' hR=>?_⟩
   ·have HR:=Lib.hid hR
    clear hR
    simp only [Par.Gives]
    go_simp
    all_goals exact HR.out
   ·have HR:=Lib.hid hR
    clear hR
    simp only [Par.Gives]
    go_simp
    all_goals exact HR.out
   ·have HR:=Lib.hid hR
    clear hR
    simp only [Par.Gives]
    go_simp
    all_goals exact HR.out
   ·have HR:=Lib.hid hR
    obtain ⟨b0,b1,b2,c0,hW,hB⟩:=hR
    simp only [Par.Gives]
    go_simp
    all_goals exact HR.out
   ·have HR:=Lib.hid hR
    clear hR
    simp only [Par.Gives]
    go_simp
    exact (hmay w').mono (fun e w'' ⟨he,hb⟩=>⟨he,keep _ _ HR.out hb⟩)
   ·have HR:=Lib.hid hR
    clear hR
    simp only [Par.Gives]
    go_simp
    all_goals exact HR.out
   ·have HR:=Lib.hid hR
    clear hR
    simp only [Par.Gives]
    go_simp
    all_goals exact HR.out
   ·have HR:=Lib.hid hR
    clear hR
    simp only [Par.Gives]
    go_simp
    all_goals exact HR.out
   ·have HR:=Lib.hid hR
    clear hR
    simp only [Par.Gives]
    go_simp
    all_goals exact HR.out
   ·have HR:=Lib.hid hR
    clear hR
    simp only [Par.Gives]
    go_simp
    all_goals exact HR.out
   ·have HR:=Lib.hid hR
    clear hR
    simp only [Par.Gives]
    go_simp
    all_goals exact HR.out
   ·have HR:=Lib.hid hR
    clear hR
    simp only [Par.Gives]
    go_simp
    all_goals exact HR.out
   ·have HR:=Lib.hid hR
    clear hR
    simp only [Par.Gives]
    go_simp
    all_goals exact HR.out
   ·have HR:=Lib.hid hR
    clear hR
    simp only [Par.Gives]
    go_simp
    all_goals exact HR.out
   ·have HR:=Lib.hid hR
    clear hR
    simp only [Par.Gives]
    go_simp
    all_goals exact HR.out
   ·have HR:=Lib.hid hR
    clear hR
    simp only [Par.Gives]
    go_simp
    all_goals exact HR.out
   ·have HR:=Lib.hid hR
    clear hR
    simp only [Par.Gives]
    go_simp
    all_goals exact HR.out
   ·have HR:=Lib.hid hR
    clear hR
    simp only [Par.Gives]
    go_simp
    all_goals exact HR.out
   ·have HR:=Lib.hid hR
    clear hR
    simp only [Par.Gives]
    go_simp
    all_goals exact HR.out
   ·have HR:=Lib.hid hR
    clear hR
    simp only [Par.Gives]
    go_simp
    all_goals exact HR.out
   ·have HR:=Lib.hid hR
    clear hR
    simp only [Par.Gives]
    go_simp
    all_goals exact HR.out
  case hT1 =>
   intro w' hR
   simp only [List.drop_succ_cons,List.drop_zero]
   obtain ⟨_,_,_,_,hW,_⟩:=hR
   go_wp2_with fail
   go_ret
   exact ⟨rfl,hW⟩
 | true =>
  by_cases h0 : k=0
  ·have e0 : (k == 0)=true:=by simp [h0]
   have e0d : decide (k=0)=true:=decide_eq_true h0
   rw [e0d]
   simp only [Bool.true_and,Bool.true_or]
   clear e0d h0
   go_enter Tryz.func113,Tryz.ntmps113
   go_wp2_with fail
   refine Par.wp_region_par 21 [.pointer (some ⟨cb,0,none⟩),.bool true,.bool true,.agg #[.int .i64 k,.int .i64 n1,.string s],.bool true,.bool true,.bool true,.pointer (some ⟨B,0,none⟩),.int .i64 k,.bool true,.bool true,undef,undef,undef,undef,undef,undef,undef,.bool true,.bool true,.bool true] (fun w=>w.cell? ⟨B,0,none⟩=some (.int .i64 k)∧w.cell? ⟨B,1,none⟩=some (.int .i64 n1)∧w.cell? ⟨B,2,none⟩=some (.string s)∧w.cell? ⟨cb,0,none⟩=some (.int .i64 kind)∧Below B W w∧B<w.heap.size) ?A2 ?hm2 ?hB2 ?hA2 HK.out ?hop2 ?hT2
   case hm2=>kernel_rfl
   case hB2=>kernel_rfl
   case hA2 =>
    simp only [Par.putA,Par.dstAt,Act.put,List.getElem?_toArray,List.getElem?_cons_zero,List.getElem?_cons_succ,Option.bind_some,List.setIfInBounds_toArray,List.set_cons_zero,List.set_cons_succ,List.getD_cons_zero,List.getD_cons_succ]
    rfl
   case hop2 =>
    simp only [List.take_succ_cons,List.take_zero,Par.GiveAll,and_true]
    refine ⟨fun w' hR=>?_,fun w' hR=>?_,fun w' hR=>?_,fun w' hR=>?_,fun w' hR=>?_,fun w' hR=>?_,fun w' hR=>?_,fun w' hR=>?_,fun w' hR=>?_,fun w' hR=>?_,fun w' hR=>?_,fun w' hR=>?_,fun w' hR=>?_,fun w' hR=>?_,fun w' hR=>?_,fun w' hR=>?_,fun w' hR=>?_,fun w' hR=>?_,fun w' hR=>?_,fun w' hR=>?_,fun w' hR=>?_⟩
    ·have HR:=Lib.hid hR
     clear hR
     simp only [Par.Gives]
     go_simp
     all_goals exact HR.out
    ·have HR:=Lib.hid hR
     clear hR
     simp only [Par.Gives]
     go_simp
     all_goals exact HR.out
    ·have HR:=Lib.hid hR
     clear hR
     simp only [Par.Gives]
     go_simp
     all_goals exact HR.out
    ·have HR:=Lib.hid hR
     obtain ⟨b0,b1,b2,c0,hW,hB⟩:=hR
     simp only [Par.Gives]
     go_simp
     all_goals exact HR.out
    ·have HR:=Lib.hid hR
     clear hR
     simp only [Par.Gives]
     go_simp
     exact (hmay w').mono (fun e w'' ⟨he,hb⟩=>⟨he,keep _ _ HR.out hb⟩)
    ·have HR:=Lib.hid hR
     clear hR
     simp only [Par.Gives]
     go_simp
     all_goals exact HR.out
    ·have HR:=Lib.hid hR
     clear hR
     simp only [Par.Gives]
     go_simp
     all_goals exact HR.out
    ·have HR:=Lib.hid hR
     clear hR
     simp only [Par.Gives]
     go_simp
     all_goals exact HR.out
    ·have HR:=Lib.hid hR
     obtain ⟨b0,b1,b2,c0,hW,hB⟩:=hR
     simp only [Par.Gives]
     go_simp
     all_goals exact HR.out
    ·have HR:=Lib.hid hR
     clear hR
     simp only [Par.Gives]
     go_simp
     all_goals exact HR.out
    ·have HR:=Lib.hid hR
     clear hR
     simp only [Par.Gives]
     go_simp
     all_goals exact HR.out
    ·have HR:=Lib.hid hR
     clear hR
     simp only [Par.Gives]
     go_simp
     all_goals exact HR.out
    ·have HR:=Lib.hid hR
     clear hR
     simp only [Par.Gives]
     go_simp
     all_goals exact HR.out
    ·have HR:=Lib.hid hR
     clear hR
     simp only [Par.Gives]
     go_simp
     all_goals exact HR.out
    ·have HR:=Lib.hid hR
     clear hR
     simp only [Par.Gives]
     go_simp
     all_goals exact HR.out
    ·have HR:=Lib.hid hR
     clear hR
     simp only [Par.Gives]
     go_simp
     all_goals exact HR.out
    ·have HR:=Lib.hid hR
     clear hR
     simp only [Par.Gives]
     go_simp
     all_goals exact HR.out
    ·have HR:=Lib.hid hR
     clear hR
     simp only [Par.Gives]
     go_simp
     all_goals exact HR.out
    ·have HR:=Lib.hid hR
     clear hR
     simp only [Par.Gives]
     go_simp
     all_goals exact HR.out
    ·have HR:=Lib.hid hR
     clear hR
     simp only [Par.Gives]
     go_simp
     all_goals exact HR.out
    ·have HR:=Lib.hid hR
     clear hR
     simp only [Par.Gives]
     go_simp
     all_goals exact HR.out
   case hT2 =>
    intro w' hR
    simp only [List.drop_succ_cons,List.drop_zero]
    obtain ⟨_,_,_,_,hW,_⟩:=hR
    go_wp2_with fail
    go_ret
    exact ⟨rfl,hW⟩
  ·have e0 : (k == 0)=false:=by simp [h0]
   have e0d : decide (k=0)=false:=decide_eq_false h0
   rw [e0d]
   simp only [Bool.true_and,Bool.false_or]
   have ee : (k == kind)=decide (k=kind):=by rw [Bool.eq_iff_iff]; simp
   generalize decide (k=kind)=ke at ee ⊢
   clear e0d h0
   go_enter Tryz.func113,Tryz.ntmps113
   go_wp2_with fail
   refine Par.wp_region_par 21 [.pointer (some ⟨cb,0,none⟩),.bool true,.bool true,.agg #[.int .i64 k,.int .i64 n1,.string s],.bool true,.bool true,.bool true,.pointer (some ⟨B,0,none⟩),.int .i64 k,.bool false,.bool false,.pointer (some ⟨B,0,none⟩),.int .i64 k,.pointer (some ⟨cb,0,none⟩),.pointer (some ⟨cb,0,none⟩),.pointer (some ⟨cb,0,none⟩),.int .i64 kind,.bool ke,.bool ke,.bool ke,.bool ke] (fun w=>w.cell? ⟨B,0,none⟩=some (.int .i64 k)∧w.cell? ⟨B,1,none⟩=some (.int .i64 n1)∧w.cell? ⟨B,2,none⟩=some (.string s)∧w.cell? ⟨cb,0,none⟩=some (.int .i64 kind)∧Below B W w∧B<w.heap.size) ?A3 ?hm3 ?hB3 ?hA3 HK.out ?hop3 ?hT3
   case hm3=>kernel_rfl
   case hB3=>kernel_rfl
   case hA3 =>
    simp only [Par.putA,Par.dstAt,Act.put,List.getElem?_toArray,List.getElem?_cons_zero,List.getElem?_cons_succ,Option.bind_some,List.setIfInBounds_toArray,List.set_cons_zero,List.set_cons_succ,List.getD_cons_zero,List.getD_cons_succ]
    rfl
   case hop3 =>
    simp only [List.take_succ_cons,List.take_zero,Par.GiveAll,and_true]
    refine ⟨fun w' hR=>?_,fun w' hR=>?_,fun w' hR=>?_,fun w' hR=>?_,fun w' hR=>?_,fun w' hR=>?_,fun w' hR=>?_,fun w' hR=>?_,fun w' hR=>?_,fun w' hR=>?_,fun w' hR=>?_,fun w' hR=>?_,fun w' hR=>?_,fun w' hR=>?_,fun w' hR=>?_,fun w' hR=>?_,fun w' hR=>?_,fun w' hR=>?_,fun w' hR=>?_,fun w' hR=>?_,fun w' hR=>?_⟩
    ·have HR:=Lib.hid hR
     clear hR
     simp only [Par.Gives]
     go_simp
     all_goals exact HR.out
    ·have HR:=Lib.hid hR
     clear hR
     simp only [Par.Gives]
     go_simp
     all_goals exact HR.out
    ·have HR:=Lib.hid hR
     clear hR
     simp only [Par.Gives]
     go_simp
     all_goals exact HR.out
    ·have HR:=Lib.hid hR
     obtain ⟨b0,b1,b2,c0,hW,hB⟩:=hR
     simp only [Par.Gives]
     go_simp
     all_goals exact HR.out
    ·have HR:=Lib.hid hR
     clear hR
     simp only [Par.Gives]
     go_simp
     exact (hmay w').mono (fun e w'' ⟨he,hb⟩=>⟨he,keep _ _ HR.out hb⟩)
    ·have HR:=Lib.hid hR
     clear hR
     simp only [Par.Gives]
     go_simp
     all_goals exact HR.out
    ·have HR:=Lib.hid hR
     clear hR
     simp only [Par.Gives]
     go_simp
     all_goals exact HR.out
    ·have HR:=Lib.hid hR
     clear hR
     simp only [Par.Gives]
     go_simp
     all_goals exact HR.out
    ·have HR:=Lib.hid hR
     obtain ⟨b0,b1,b2,c0,hW,hB⟩:=hR
     simp only [Par.Gives]
     go_simp
     all_goals exact HR.out
    ·have HR:=Lib.hid hR
     clear hR
     simp only [Par.Gives]
     go_simp
     all_goals exact HR.out
    ·have HR:=Lib.hid hR
     clear hR
     simp only [Par.Gives]
     go_simp
     all_goals exact HR.out
    ·have HR:=Lib.hid hR
     clear hR
     simp only [Par.Gives]
     go_simp
     all_goals exact HR.out
    ·have HR:=Lib.hid hR
     obtain ⟨b0,b1,b2,c0,hW,hB⟩:=hR
     simp only [Par.Gives]
     go_simp
     all_goals exact HR.out
    ·have HR:=Lib.hid hR
     clear hR
     simp only [Par.Gives]
     go_simp
     all_goals exact HR.out
    ·have HR:=Lib.hid hR
     clear hR
     simp only [Par.Gives]
     go_simp
     all_goals exact HR.out
    ·have HR:=Lib.hid hR
     clear hR
     simp only [Par.Gives]
     go_simp
     all_goals exact HR.out
    ·have HR:=Lib.hid hR
     obtain ⟨b0,b1,b2,c0,hW,hB⟩:=hR
     simp only [Par.Gives]
     go_simp
     all_goals exact HR.out
    ·have HR:=Lib.hid hR
     clear hR
     simp only [Par.Gives]
     go_simp
     all_goals exact HR.out
    ·have HR:=Lib.hid hR
     clear hR
     simp only [Par.Gives]
     go_simp
     all_goals exact HR.out
    ·have HR:=Lib.hid hR
     clear hR
     simp only [Par.Gives]
     go_simp
     all_goals exact HR.out
    ·have HR:=Lib.hid hR
     clear hR
     simp only [Par.Gives]
     go_simp
     all_goals exact HR.out
   case hT3 =>
    intro w' hR
    simp only [List.drop_succ_cons,List.drop_zero]
    obtain ⟨_,_,_,_,hW,_⟩:=hR
    go_wp2_with fail
    go_ret
    exact ⟨rfl,hW⟩
end
section
variable {cb : Nat} {kind n : Int} {v : Value} {L : List (K 12×Int)} {W0 W W' : World}
set_option maxRecDepth 100000 in
theorem count_null (h : Cm cb kind v n L W0 W) (n1 : Int) (s : ByteArray) (hn : 0≤n∧n≤1000000) : Calls Tryz.prog 115 #[(Value.pointer (some ⟨cb,0,none⟩)),(Value.agg #[Value.int .i64 (0),Value.int .i64 (n1),Value.string (s)])] W fun e w'=>e=.returned (.tuple #[])∧Cm cb kind v (n+1) L W0 w'∧Chg (fun b=>b=cb) W w':=by
 have hlt:=h.lt
 have c4:=h.c4
 have fz:=h.dm.fz 4
 have hw : IntKind.i64.wrap (n+1)=n+1:=by rw [IntKind.wrap_i64]; omega
 go_enter Tryz.func115,Tryz.ntmps115
 go_wp2
 go_end0
 exact ⟨rfl,(h.set4 _).later (below_alloc _ _),((Chg.refl (fun b=>b=cb) W).setCell (fun _=>rfl) _).alloc _⟩
set_option maxRecDepth 100000 in
theorem uncount_null (h : Cm cb kind v n L W0 W) (n1 : Int) (s : ByteArray) (hn : 1≤n∧n≤1000000) : Calls Tryz.prog 114 #[(Value.pointer (some ⟨cb,0,none⟩)),(Value.agg #[Value.int .i64 (0),Value.int .i64 (n1),Value.string (s)])] W fun e w'=>e=.returned (.tuple #[])∧Cm cb kind v (n - 1) L W0 w'∧Chg (fun b=>b=cb) W w':=by
 have hlt:=h.lt
 have c4:=h.c4
 have fz:=h.dm.fz 4
 have hw : IntKind.i64.wrap (n - 1)=n - 1:=by rw [IntKind.wrap_i64]; omega
 go_enter Tryz.func114,Tryz.ntmps114
 go_wp2
 go_end0
 exact ⟨rfl,(h.set4 _).later (below_alloc _ _),((Chg.refl (fun b=>b=cb) W).setCell (fun _=>rfl) _).alloc _⟩
set_option maxRecDepth 100000 in
theorem count_other (h : Cm cb kind v n L W0 W) (n1 : Int) (s : ByteArray) (k : Int) (hk0 : k≠0) (hk2 : k≠2) : Calls Tryz.prog 115 #[(Value.pointer (some ⟨cb,0,none⟩)),(Value.agg #[Value.int .i64 (k),Value.int .i64 (n1),Value.string (s)])] W fun e w'=>e=.returned (.tuple #[])∧Below W.heap.size W w':=by
 have hlt:=h.lt
 have c4:=h.c4
 have fz:=h.dm.fz 4
 have e0 : (k == 0)=false:=by simp [hk0]
 have e2 : (k == 2)=false:=by simp [hk2]
 go_enter Tryz.func115,Tryz.ntmps115
 go_wp2
 go_end0
 exact ⟨rfl,below_alloc W _⟩
set_option maxRecDepth 100000 in
theorem uncount_other (h : Cm cb kind v n L W0 W) (n1 : Int) (s : ByteArray) (k : Int) (hk0 : k≠0) (hk2 : k≠2) : Calls Tryz.prog 114 #[(Value.pointer (some ⟨cb,0,none⟩)),(Value.agg #[Value.int .i64 (k),Value.int .i64 (n1),Value.string (s)])] W fun e w'=>e=.returned (.tuple #[])∧Below W.heap.size W w':=by
 have hlt:=h.lt
 have c4:=h.c4
 have fz:=h.dm.fz 4
 have e0 : (k == 0)=false:=by simp [hk0]
 have e2 : (k == 2)=false:=by simp [hk2]
 go_enter Tryz.func114,Tryz.ntmps114
 go_wp2
 go_end0
 exact ⟨rfl,below_alloc W _⟩
set_option maxRecDepth 100000 in
set_option maxHeartbeats 1000000 in
theorem count_text (h : Cm cb kind v n L W0 W) (n1 : Int) (s : ByteArray) (hs : s.size≤12) (hl : L.length+1≤999999) (ht : tm (wd s) L+1≤1000000) : Calls Tryz.prog 115 #[(Value.pointer (some ⟨cb,0,none⟩)),(Value.agg #[Value.int .i64 (2),Value.int .i64 (n1),Value.string (s)])] W fun e w'=>e=.returned (.tuple #[])∧Cm cb kind v n (insL keyOf (wd s) (tm (wd s) L+1) L) W0 w'∧Chg (fun b=>b=cb) W w':=by
 have hlt:=h.lt
 have hnew:=heap_alloc_new W (.cells #[.int .i64 2,.int .i64 n1,.string s] 26)
 have hbel:=below_alloc W (.cells #[.int .i64 2,.int .i64 n1,.string s] 26)
 obtain ⟨B,hB⟩ : ∃ B,W.heap.size=B:=⟨_,rfl⟩
 have hws:=wd_val hs
 rw [hB] at hnew hbel hlt
 have HK:=Lib.hid (show (fun w : World=>w.cell? ⟨B,2,none⟩=some (.string s)∧Below B W w∧B<w.heap.size) (W.alloc (.cells #[.int .i64 2,.int .i64 n1,.string s] 26)).drew from
  ⟨nd_cell hnew 2,hbel.drew,by show B<(W.alloc _).heap.size; simp; omega⟩)
 have h : ∀ {y : World},Below B W y→Cm cb kind v n L W0 y:=fun hb=>h.later (hB ▸ hb)
 have hcal:=fun (y : World) (hy : Below B W y)=>add_any (wd s) (h hy).dm hl ht
 simp only [hws] at hcal
 clear hnew hbel
 go_enter Tryz.func115,Tryz.ntmps115
 go_wp2_with fail
 refine Par.wp_region_par 5 [.pointer (some ⟨cb,0,none⟩),.pointer (some ⟨cb,0,none⟩),.pointer (some ⟨cb,2,none⟩),.pointer (some ⟨B,2,none⟩),.string s] (fun w=>w.cell? ⟨B,2,none⟩=some (.string s)∧Below B W w∧B<w.heap.size) ?A1 ?hm1 ?hB1 ?hA1 HK.out ?hop1 ?hT1
 case hm1=>kernel_rfl
 case hB1=>kernel_rfl
 case hA1 =>
  simp only [Par.putA,Par.dstAt,Act.put,List.getElem?_toArray,List.getElem?_cons_zero,List.getElem?_cons_succ,Option.bind_some,List.setIfInBounds_toArray,List.set_cons_zero,List.set_cons_succ,List.getD_cons_zero,List.getD_cons_succ]
  rfl
 case hop1 =>
  simp only [List.take_succ_cons,List.take_zero,Par.GiveAll,and_true]
  refine ⟨fun w' hR=>?_,fun w' hR=>?_,fun w' hR=>?_,fun w' hR=>?_,fun w' hR=>?_⟩
  ·have HR:=Lib.hid hR
   clear hR
   simp only [Par.Gives]
   go_simp
   all_goals exact HR.out
  ·have HR:=Lib.hid hR
   clear hR
   simp only [Par.Gives]
   go_simp
   all_goals exact HR.out
  ·have HR:=Lib.hid hR
   clear hR
   simp only [Par.Gives]
   go_simp
   all_goals exact HR.out
  ·have HR:=Lib.hid hR
   clear hR
   simp only [Par.Gives]
   go_simp
   all_goals exact HR.out
  ·have HR:=Lib.hid hR
   obtain ⟨b2,hW,hB⟩:=hR
   simp only [Par.Gives]
   go_simp
   all_goals exact HR.out
 case hT1 =>
  intro w' hR
  simp only [List.drop_succ_cons,List.drop_zero]
  have hbW:=hR.2.1
  have hh:=hcal w' hbW
  go_wp2_with (go_at_call 142; (with_reducible refine hh.mono ?_); rintro e w3 ⟨rfl,d3,c3⟩)
  go_end0
  exact ⟨rfl,(h hbW).map d3 c3,(Chg.of_below (S:=fun b=>b=cb) (hB.symm ▸ hbW)).trans c3.chg (fun _ _ x=>x) (fun _ _ x=>x)⟩
set_option maxRecDepth 100000 in
set_option maxHeartbeats 1000000 in
theorem uncount_text (h : Cm cb kind v n L W0 W) (n1 : Int) (s : ByteArray) (hs : s.size≤12) (hl : L.length+1≤999999) : Calls Tryz.prog 114 #[(Value.pointer (some ⟨cb,0,none⟩)),(Value.agg #[Value.int .i64 (2),Value.int .i64 (n1),Value.string (s)])] W fun e w'=>e=.returned (.tuple #[])∧Cm cb kind v n (takeL (wd s) L) W0 w'∧Chg (fun b=>b=cb) W w':=by
 have hlt:=h.lt
 have hnew:=heap_alloc_new W (.cells #[.int .i64 2,.int .i64 n1,.string s] 26)
 have hbel:=below_alloc W (.cells #[.int .i64 2,.int .i64 n1,.string s] 26)
 obtain ⟨B,hB⟩ : ∃ B,W.heap.size=B:=⟨_,rfl⟩
 have hws:=wd_val hs
 rw [hB] at hnew hbel hlt
 have HK:=Lib.hid (show (fun w : World=>w.cell? ⟨B,2,none⟩=some (.string s)∧Below B W w∧B<w.heap.size) (W.alloc (.cells #[.int .i64 2,.int .i64 n1,.string s] 26)).drew from
  ⟨nd_cell hnew 2,hbel.drew,by show B<(W.alloc _).heap.size; simp; omega⟩)
 have h : ∀ {y : World},Below B W y→Cm cb kind v n L W0 y:=fun hb=>h.later (hB ▸ hb)
 have hcal:=fun (y : World) (hy : Below B W y)=>take_any (wd s) (h hy).dm hl
 simp only [hws] at hcal
 clear hnew hbel
 go_enter Tryz.func114,Tryz.ntmps114
 go_wp2_with fail
 refine Par.wp_region_par 5 [.pointer (some ⟨cb,0,none⟩),.pointer (some ⟨cb,0,none⟩),.pointer (some ⟨cb,2,none⟩),.pointer (some ⟨B,2,none⟩),.string s] (fun w=>w.cell? ⟨B,2,none⟩=some (.string s)∧Below B W w∧B<w.heap.size) ?A2 ?hm2 ?hB2 ?hA2 HK.out ?hop2 ?hT2
 case hm2=>kernel_rfl
 case hB2=>kernel_rfl
 case hA2 =>
  simp only [Par.putA,Par.dstAt,Act.put,List.getElem?_toArray,List.getElem?_cons_zero,List.getElem?_cons_succ,Option.bind_some,List.setIfInBounds_toArray,List.set_cons_zero,List.set_cons_succ,List.getD_cons_zero,List.getD_cons_succ]
  rfl
 case hop2 =>
  simp only [List.take_succ_cons,List.take_zero,Par.GiveAll,and_true]
  refine ⟨fun w' hR=>?_,fun w' hR=>?_,fun w' hR=>?_,fun w' hR=>?_,fun w' hR=>?_⟩
  ·have HR:=Lib.hid hR
   clear hR
   simp only [Par.Gives]
   go_simp
   all_goals exact HR.out
  ·have HR:=Lib.hid hR
   clear hR
   simp only [Par.Gives]
   go_simp
   all_goals exact HR.out
  ·have HR:=Lib.hid hR
   clear hR
   simp only [Par.Gives]
   go_simp
   all_goals exact HR.out
  ·have HR:=Lib.hid hR
   clear hR
   simp only [Par.Gives]
   go_simp
   all_goals exact HR.out
  ·have HR:=Lib.hid hR
   obtain ⟨b2,hW,hB⟩:=hR
   simp only [Par.Gives]
   go_simp
   all_goals exact HR.out
 case hT2 =>
  intro w' hR
  simp only [List.drop_succ_cons,List.drop_zero]
  have hbW:=hR.2.1
  have hh:=hcal w' hbW
  go_wp2_with (go_at_call 141; (with_reducible refine hh.mono ?_); rintro e w3 ⟨rfl,d3,c3⟩)
  go_end0
  exact ⟨rfl,(h hbW).map d3 c3,(Chg.of_below (S:=fun b=>b=cb) (hB.symm ▸ hbW)).trans c3.chg (fun _ _ x=>x) (fun _ _ x=>x)⟩
set_option maxRecDepth 100000 in
set_option maxHeartbeats 1000000 in
theorem at_in {l : List T3} {base : Nat} (h : Cm cb kind v n L W0 W) (hr : HRow W base 26 3 v l.length (cells3 l)) (i : Nat) (hi : i<l.length) : Calls Tryz.prog 93 #[(Value.pointer (some ⟨cb,0,none⟩)),(Value.int .i64 ((i : Int)))] W fun e w'=>e=.returned (.tuple #[(Value.agg #[Value.int .i64 ((l[i]).1),Value.int .i64 ((l[i]).2.1),Value.string ((l[i]).2.2)]),.bool true])∧Below W.heap.size W w':=by
 have hlt:=h.lt
 have c1:=h.c1
 have hlen:=fun y (hy : Below W.heap.size W y)=>clen_any (h.later hy) (hr.later hy)
 obtain ⟨g,cap,rfl,hnc,_⟩:=hr.slice (by omega)
 obtain ⟨h0,h1,h2⟩:=cells3_at l i hi
 have a0:=hr.cell h0
 have a1:=hr.cell h1
 have a2:=hr.cell h2
 have hg:=(hr.lt g rfl).2
 have b0:=hlen _ (below_alloc W (.cells #[.int .i64 0,.int .i64 0,.string ⟨#[]⟩] 26))
 generalize l[i]=x at a0 a1 a2 ⊢
 obtain ⟨k,n1,s⟩:=x
 obtain ⟨m,hm⟩ : ∃ m,l.length=m:=⟨_,rfl⟩
 rw [hm] at hi b0 hnc c1
 have d0 : decide ((i : Int)<0)=false:=decide_eq_false (by omega)
 have d1 : decide ((m : Int)≤(i : Int))=false:=decide_eq_false (by omega)
 have d2 : (i : Int)<(m : Int):=by omega
 clear h0 h1 h2 hlen hr h hm
 go_enter Tryz.func93,Tryz.ntmps93
 go_wp2_with (go_at_call 124; (with_reducible refine b0.mono ?_); rintro e w' ⟨rfl,hw⟩; subst w')
 refine bodyPost_ret (v:=.tuple #[(Value.agg #[Value.int .i64 (k),Value.int .i64 (n1),Value.string (s)]),.bool true]) (by simp [results,Tryz.results93,go_sem]) rfl ?_
 exact ⟨rfl,by first | exact below_alloc W _ | exact (below_alloc W _).setCell (Nat.le_refl _) _⟩
end
end Go.Proofs.YtjepplacnaoomaaGreat.Co.S
