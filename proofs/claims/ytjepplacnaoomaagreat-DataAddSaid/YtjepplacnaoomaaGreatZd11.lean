import Derived.Test.YtjepplacnaoomaaGreatZd9
import Derived.Test.YtjepplacnaoomaaGreatZd10
import Derived.Test.YtjepplacnaoomaaGreatZd2
namespace Go.Proofs.YtjepplacnaoomaaGreat.Co.S
open Go Go.RowKit Go.Shelf Go.Proofs Go.Proofs.YtjepplacnaoomaaGreat Go.Proofs.YtjepplacnaoomaaGreat.Co
abbrev T3:=Int×Int×ByteArray
def cells3 (l : List T3) : List Value:=l.flatMap fun x=>[.int .i64 x.1,.int .i64 x.2.1,.string x.2.2]
theorem cells3_append (xs ys : List T3) : cells3 (xs ++ ys)=cells3 xs ++ cells3 ys:=by simp [cells3]
theorem cells3_len (xs : List T3) : (cells3 xs).length=xs.length*3:=by
 induction xs with
 | nil=>rfl
 | cons x r ih =>
  have e : cells3 (x :: r)=[.int .i64 x.1,.int .i64 x.2.1,.string x.2.2] ++ cells3 r:=by simp [cells3]
  rw [e,List.length_append,ih]; simp; omega
theorem cells3_at (xs : List T3) (i : Nat) (h : i<xs.length) : (cells3 xs)[i*3]?=some (.int .i64 xs[i].1)∧(cells3 xs)[i*3+1]?=some (.int .i64 xs[i].2.1)∧(cells3 xs)[i*3+2]?=some (.string xs[i].2.2):=by
 induction xs generalizing i with
 | nil=>simp at h
 | cons x r ih =>
  cases i with
  | zero=>simp [cells3]
  | succ i =>
   have:=ih i (by simpa using h)
   have e : cells3 (x :: r)=[.int .i64 x.1,.int .i64 x.2.1,.string x.2.2] ++ cells3 r:=by simp [cells3]
   rw [e]
   rw [show (i+1)*3=3+i*3 by omega,show 3+i*3+1=3+(i*3+1) by omega,show 3+i*3+2=3+(i*3+2) by omega]
   rw [List.getElem?_append_right (by simp),List.getElem?_append_right (by simp),List.getElem?_append_right (by simp)]
   simpa using this
theorem cells3_set (xs : List T3) (i : Nat) (h : i<xs.length) (x : T3) : cells3 (xs.set i x)=(((cells3 xs).set (i*3) (.int .i64 x.1)).set (i*3+1) (.int .i64 x.2.1)).set (i*3+2) (.string x.2.2):=by
 induction xs generalizing i with
 | nil=>simp at h
 | cons y r ih =>
  have e : ∀ (y : T3) r,cells3 (y :: r)=.int .i64 y.1 :: .int .i64 y.2.1 :: .string y.2.2 :: cells3 r:=fun y r=>by simp [cells3]
  cases i with
  | zero=>simp [e]
  | succ i =>
   have:=ih i (by simpa using h)
   rw [List.set_cons_succ,e,e,this,show (i+1)*3=i*3+1+1+1 by omega]
   simp only [List.set_cons_succ]
def wd (s : ByteArray) : K 12:=if h : s.size≤12 then ⟨s,h⟩ else ⟨⟨#[]⟩,by decide⟩
theorem wd_val {s : ByteArray} (h : s.size≤12) : (wd s).1=s:=by unfold wd; rw [dif_pos h]
structure Cm (cb : Nat) (kind : Int) (v : Value) (n : Int) (L : List (K 12×Int)) (W0 W : World) : Prop where
 c0 : W.cell? ⟨cb,0,none⟩=some (Value.int .i64 (kind))
 c1 : W.cell? ⟨cb,1,none⟩=some v
 dm : Dm W0 cb L W
 c4 : W.cell? ⟨cb,4,none⟩=some (Value.int .i64 (n))
section
variable {cb : Nat} {kind n : Int} {v : Value} {L : List (K 12×Int)} {W0 W W' : World}
theorem Dm.fz {mb : Nat} (h : Dm W0 mb L W) (j : Nat) : W.frozen? ⟨mb,j,none⟩=false:=by obtain ⟨cv,h1,_⟩:=h.mp; exact h1.fz j
theorem Cm.lt (h : Cm cb kind v n L W0 W) : cb<W.heap.size:=h.dm.lt
theorem Cm.later (h : Cm cb kind v n L W0 W) (hb : Below W.heap.size W W') : Cm cb kind v n L W0 W':=by
 have e:=hb.block cb h.lt
 exact ⟨(World.cell?_of_block (w:=W) e).trans h.c0,(World.cell?_of_block (w:=W) e).trans h.c1,h.dm.later hb,(World.cell?_of_block (w:=W) e).trans h.c4⟩
theorem Dm.set {mb : Nat} (h : Dm W0 mb L W) (j : Nat) (h2 : j≠2) (h3 : j≠3) (u : Value) : Dm W0 mb L (W.setCell ⟨mb,j,none⟩ u):=by
 obtain ⟨cv,m,q⟩:=h.mp
 obtain ⟨t,p,r1,r2,r3⟩:=m.rt
 refine ⟨⟨cv,⟨m.dm,?_,⟨t,p,?_,Tr.of (fun b h1 _=>Below.heap_setCell _ _ _ b (by intro e; simp at e; omega)) r2,r3⟩,fun i=>by rw [World.frozen?_setCell]; exact m.fz i,m.srt,m.bel.setCell (Nat.zero_le _) _,m.ty.set j u⟩,q⟩,h.pos,h.len⟩
 ·rw [World.cell?_setCell_other _ _ _ _ (fun e=>h2 (by cases e; rfl))]
  exact m.c0
 ·rw [World.cell?_setCell_other _ _ _ _ (fun e=>h3 (by cases e; rfl))]
  exact r1
theorem Cm.set4 (h : Cm cb kind v n L W0 W) (k : Int) : Cm cb kind v k L W0 (W.setCell ⟨cb,4,none⟩ (Value.int .i64 (k))) :=
 ⟨by rw [World.cell?_setCell_other _ _ _ _ (by simp)]; exact h.c0,by rw [World.cell?_setCell_other _ _ _ _ (by simp)]; exact h.c1,h.dm.set 4 (by decide) (by decide) _,World.cell?_setCell_same _ _ _ h.c4⟩
theorem Cm.set1 (h : Cm cb kind v n L W0 W) (u : Value) : Cm cb kind u n L W0 (W.setCell ⟨cb,1,none⟩ u) :=
 ⟨by rw [World.cell?_setCell_other _ _ _ _ (by simp)]; exact h.c0,World.cell?_setCell_same _ _ _ h.c1,h.dm.set 1 (by decide) (by decide) _,by rw [World.cell?_setCell_other _ _ _ _ (by simp)]; exact h.c4⟩
theorem Cm.map {L' : List (K 12×Int)} (h : Cm cb kind v n L W0 W) (hd : Dm W0 cb L' W') (hc : Chm cb W W') : Cm cb kind v n L' W0 W' :=
 ⟨(hc.keep 0 (by decide) (by decide)).trans h.c0,(hc.keep 1 (by decide) (by decide)).trans h.c1,hd,(hc.keep 4 (by decide) (by decide)).trans h.c4⟩
theorem Cm.other {row : Option Nat} (h : Cm cb kind v n L W0 W) (hg : W.grownBy W' row) (hr : ∀ k,row=some k→k≠cb∧Ty W k) : Cm cb kind v n L W0 W':=by
 obtain ⟨cv,m,q⟩:=h.dm.mp
 have e : W'.heap[cb]?=W.heap[cb]?:=hg.block cb h.lt (fun x=>(hr cb x.symm).1 rfl)
 obtain ⟨t,p,r1,r2,r3⟩:=m.rt
 refine ⟨(World.cell?_of_block (w:=W) e).trans h.c0,(World.cell?_of_block (w:=W) e).trans h.c1,⟨⟨cv,⟨m.dm,(World.cell?_of_block (w:=W) e).trans m.c0,⟨t,p,(World.cell?_of_block (w:=W) e).trans r1,Tr.of_nodes (fun b cs hb=>hg.block b (lt_of_heap hb) (fun x=>?_)) r2,r3⟩,fun j=>(World.frozen?_of_block (w:=W) e).trans (m.fz j),m.srt,
  m.bel.trans ⟨hg.os,hg.tape,hg.output,hg.size,fun k hk=>absurd hk (Nat.not_lt_zero _)⟩,m.ty.of e⟩,q⟩,h.dm.pos,h.dm.len⟩,(World.cell?_of_block (w:=W) e).trans h.c4⟩
 obtain ⟨_,cs',ty,h3,h4⟩:=hr b x.symm
 rw [hb] at h3
 cases h3
 exact absurd h4 (by decide)
theorem clen_any {m : Nat} {xs : List Value} {base : Nat} (h : Cm cb kind v n L W0 W) (hr : HRow W base 26 3 v m xs) : Calls Tryz.prog 124 #[(Value.pointer (some ⟨cb,0,none⟩))] W fun e w'=>e=.returned (Value.int .i64 ((m : Int)))∧w'=W:=by
 have c1:=h.c1
 obtain ⟨p,cap,rfl,hm,_⟩:=hr.isslice
 clear h hr
 go_enter Tryz.func124,Tryz.ntmps124
 go_wp2
 go_ret
 exact ⟨rfl,rfl⟩
theorem words_any (h : Cm cb kind v n L W0 W) : Calls Tryz.prog 140 #[(Value.pointer (some ⟨cb,0,none⟩))] W fun e w'=>e=.returned (Value.int .i64 ((L.length : Int)))∧w'=W:=by
 have hl:=dlen_any h.dm
 generalize L.length=z at hl
 go_enter Tryz.func140,Tryz.ntmps140
 go_wp2_with (go_at_call 155; (with_reducible refine hl.mono ?_); rintro e w' ⟨rfl,hw⟩; subst w')
 go_ret
 exact ⟨rfl,rfl⟩
end
end Go.Proofs.YtjepplacnaoomaaGreat.Co.S
