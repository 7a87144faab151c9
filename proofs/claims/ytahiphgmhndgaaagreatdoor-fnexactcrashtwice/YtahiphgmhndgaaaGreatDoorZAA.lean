/- Several texts laid together: Mem, IntS, StoreS. -/
import Derived.Test.YtahiphgmhndgaaaGreatDoorRows
import Derived.WalkKit
import Derived.WalkSpells
import Derived.WalkSmall
import Derived.Deep.OwnRows
import Derived.Deep.QuietTactic
import Derived.BigQuiet
set_option maxHeartbeats 1000000
namespace Go.Proofs.YtahiphgmhndgaaaGreatDoor
open Go.RowKit
theorem _root_.Go.RowKit.Hid.o {p : Prop} (h : Hid p) : p := h
theorem zaa {p:Prop} (h:p):Hid p:=h
theorem zae {a b:Bool} (h:a=b):Ending.returned (.bool a)=.returned (.bool b):=by rw[h]
theorem zhn {a b:Int} (h:a=b):Ending.returned (.int .i64 a)=.returned (.int .i64 b):=by rw[h]
def Rd (w:World) (size:Nat) (v:Value) (n:Nat) (xs:List Value):Prop :=
 xs.length=n*size∧∃ ao cap,v=.slice ao n cap∧(n≤cap∧(ao=none→cap=0))∧(0 < n→∃ b o,ao=some ⟨b,o,none⟩∧b < w.heap.size∧∀ j,j < n*size→w.cell? ⟨b,o+j,none⟩=xs[j]?)
theorem Rd.same {w w':World} {size:Nat} {v:Value} {n:Nat} {xs:List Value} (h:Rd w size v n xs) (hz:w.heap.size≤w'.heap.size) (hs:∀ b,b < w.heap.size→v.ownBlock=some b→w'.heap[b]?=w.heap[b]?):Rd w' size v n xs:=by
 obtain ⟨h1,ao,cap,rfl,h2,h3⟩:=h;refine ⟨h1,ao,cap,rfl,h2,fun hn=>?_⟩;obtain ⟨b,o,rfl,hb,hc⟩:=h3 hn;exact ⟨b,o,rfl,Nat.lt_of_lt_of_le hb hz,fun j hj=>(World.cell?_of_block (w:=w) (hs b hb rfl)).trans (hc j hj)⟩
theorem Rd.below {w w':World} {size:Nat} {v:Value} {n:Nat} {xs:List Value} (h:Rd w size v n xs) (hb:Below w.heap.size w w'):Rd w' size v n xs :=
 h.same hb.size (fun b hlt _=>hb.block b hlt)
def Row (w:World) (e:TypeId) (size lo hi:Nat) (v:Value) (n:Nat) (xs:List Value):Prop:=w.ownsRow lo e size v n xs∧∀ k,v.ownBlock=some k→k < hi
theorem Row.rd {w:World} {e:TypeId} {size lo hi:Nat} {v:Value} {n:Nat} {xs:List Value} (h:Row w e size lo hi v n xs):Rd w size v n xs:=by
 obtain ⟨h,_⟩:=h;refine ⟨h.1,?_⟩
 rcases h.2 with ⟨rfl,rfl⟩ | ⟨g,cap,cur,rfl,hb,hg,hnc,hcm,hcs,htake⟩
 ·exact ⟨none,0,rfl,⟨Nat.le_refl _,fun _=>rfl⟩,fun h=>absurd h (by omega)⟩
 ·refine ⟨_,cap,rfl,⟨hnc,fun e=>by cases e⟩,fun _=>⟨g,0,rfl,(Array.getElem?_eq_some_iff.1 hg).1,fun j hj=>?_⟩⟩;rw[Nat.zero_add];exact World.ownsRow.cellAt h j hj
theorem Row.same {w w':World} {e:TypeId} {size lo hi:Nat} {v:Value} {n:Nat} {xs:List Value} (h:Row w e size lo hi v n xs) (hs:∀ b,lo≤b→b < hi→w'.heap[b]?=w.heap[b]?):Row w' e size lo hi v n xs:=by
 obtain ⟨⟨h1,h2⟩,h3⟩:=h;refine ⟨⟨h1,?_⟩,h3⟩
 rcases h2 with h2 | ⟨g,cap,cur,rfl,hb,hg,r⟩
 ·exact .inl h2
 ·exact .inr ⟨g,cap,cur,rfl,hb,(hs g hb (h3 g rfl)).trans hg,r⟩
theorem Row.below {w w':World} {e:TypeId} {size lo hi:Nat} {v:Value} {n:Nat} {xs:List Value} (h:Row w e size lo hi v n xs) {B:Nat} (hb:Below B w w') (hB:hi≤B):Row w' e size lo hi v n xs :=
 h.same (fun b _ hb2=>hb.block b (by omega))
theorem Row.wide {w:World} {e:TypeId} {size lo hi:Nat} {v:Value} {n:Nat} {xs:List Value} (h:Row w e size lo hi v n xs) {lo' hi':Nat} (h1:lo'≤lo) (h2:hi≤hi'):Row w e size lo' hi' v n xs:=by
 obtain ⟨⟨a,b⟩,c⟩:=h;refine ⟨⟨a,?_⟩,fun k hk=>Nat.lt_of_lt_of_le (c k hk) h2⟩
 rcases b with b | ⟨g,cap,cur,rfl,hb,r⟩
 ·exact .inl b
 ·exact .inr ⟨g,cap,cur,rfl,Nat.le_trans h1 hb,r⟩
theorem Row.nil (w:World) (e:TypeId) (size lo hi:Nat):Row w e size lo hi (.slice none 0 0) 0 []:=⟨World.ownsRow_nil w lo e size,fun _ h=>by cases h⟩
structure Outside (lo hi:Nat) (w w':World):Prop where
 os:w'.os=w.os
 tape:w'.tape=w.tape
 output:w'.output=w.output
 size:w.heap.size≤w'.heap.size
 block:∀ k,k < w.heap.size→(k < lo∨hi≤k)→w'.heap[k]?=w.heap[k]?
theorem Outside.refl (lo hi:Nat) (w:World):Outside lo hi w w:=⟨rfl,rfl,rfl,Nat.le_refl _,fun _ _ _=>rfl⟩
theorem Outside.trans {lo hi:Nat} {a b c:World} (h:Outside lo hi a b) (k:Outside lo hi b c):Outside lo hi a c :=
 ⟨k.os.trans h.os,k.tape.trans h.tape,k.output.trans h.output,Nat.le_trans h.size k.size,fun i hi' ho=>(k.block i (Nat.lt_of_lt_of_le hi' h.size) ho).trans (h.block i hi' ho)⟩
theorem Outside.of_below {lo hi:Nat} {w w':World} (h:Below w.heap.size w w'):Outside lo hi w w':=⟨h.os,h.tape,h.output,h.size,fun k hk _=>h.block k hk⟩
theorem Outside.below {lo hi B:Nat} {w w':World} (h:Outside lo hi w w') (hB:B≤lo) (hz:B≤w.heap.size):Below B w w':=⟨h.os,h.tape,h.output,h.size,fun k hk=>h.block k (by omega) (.inl (by omega))⟩
theorem Outside.setCell {lo hi:Nat} {w w':World} (h:Outside lo hi w w') {a:Addr} (h1:lo≤a.block) (h2:a.block < hi) (u:Value):Outside lo hi w (w'.setCell a u) :=
 h.trans ⟨rfl,rfl,rfl,by simp[World.setCell],fun k _ ho=>Below.heap_setCell _ _ _ _ (by omega)⟩
theorem Outside.mono {lo hi lo' hi':Nat} {w w':World} (h:Outside lo hi w w') (h1:lo'≤lo) (h2:hi≤hi'):Outside lo' hi' w w' :=
 ⟨h.os,h.tape,h.output,h.size,fun k hk ho=>h.block k hk (by omega)⟩
theorem Row.outside {w w':World} {e:TypeId} {size lo hi:Nat} {v:Value} {n:Nat} {xs:List Value} (h:Row w e size lo hi v n xs) {lo' hi':Nat} (ho:Outside lo' hi' w w') (hd:hi≤lo'∨hi'≤lo) (hz:hi≤w.heap.size):Row w' e size lo hi v n xs :=
 h.same (fun b h1 h2=>ho.block b (by omega) (by omega))
theorem zqh {a b c:World} {row:Option Nat} (h:a.grownBy b row) (k:b.grownBy c row):a.grownBy c row :=
 ⟨k.os.trans h.os,k.tape.trans h.tape,k.output.trans h.output,Nat.le_trans h.size k.size,fun i hi' ho=>(k.block i (Nat.lt_of_lt_of_le hi' h.size) ho).trans (h.block i hi' ho)⟩
theorem zct {w w':World} {row:Option Nat} (h:w.grownBy w' row) {a:Addr} (ha:row=some a.block) (u:Value):w.grownBy (w'.setCell a u) row :=
 zqh h ⟨rfl,rfl,rfl,by simp[World.setCell],fun k _ ho=>Below.heap_setCell _ _ _ _ (fun e=>ho (by rw[ha,e]))⟩
theorem yaba {w w':World} {row:Option Nat} (h:Below w.heap.size w w'):w.grownBy w' row:=⟨h.os,h.tape,h.output,h.size,fun k hk _=>h.block k hk⟩
theorem Row.grown_outside {w0 w w':World} {e:TypeId} {size lo hi:Nat} {v:Value} {n:Nat} {xs:List Value} (h:Row w0 e size lo hi v n xs) (hg:w.grownBy w' v.ownBlock):Outside lo hi w w' :=
 ⟨hg.os,hg.tape,hg.output,hg.size,fun k hk ho=>hg.block k hk (fun e=>by have h1:=(h.1.lt k e.symm).1;have h2:=h.2 k e.symm;omega)⟩
theorem Row.apart {w w':World} {e e':TypeId} {size size' lo hi lo' hi':Nat} {v v':Value} {n n':Nat} {xs xs':List Value} (h:Row w e size lo hi v n xs) (h':Row w e' size' lo' hi' v' n' xs') (hne:e≠e') (hg:w.grownBy w' v'.ownBlock):Row w' e size lo hi v n xs:=by
 obtain ⟨⟨h1,h2⟩,h3⟩:=h;refine ⟨⟨h1,?_⟩,h3⟩
 rcases h2 with h2 | ⟨g,cap,cur,rfl,hb,hh,r⟩
 ·exact .inl h2
 ·refine .inr ⟨g,cap,cur,rfl,hb,?_,r⟩;rw[hg.block g (Array.getElem?_eq_some_iff.1 hh).1 ?_]
  ·exact hh
  ·intro e0
   rcases h'.1.2 with ⟨rfl,_⟩ | ⟨g',cap',cur',rfl,_,hh',_⟩
   ·cases e0
   ·cases e0
    rw[hh] at hh';simp at hh';exact hne hh'.2
def zav (zs:List Int):List Value:=zs.map (Value.int .i64)
theorem zdg (zs:List Int):(zav zs).length=zs.length:=by simp[zav]
theorem zay (zs:List Int) (k:Nat) (h:k < zs.length):(zav zs)[k]?=some (.int .i64 zs[k]):=by simp[zav,h]
def RdI (w:World) (v:Value) (zs:List Int):Prop:=Rd w 1 v zs.length (zav zs)
theorem RdI.shape {w:World} {v:Value} {zs:List Int} (h:RdI w v zs):∃ ao cap,v=.slice ao zs.length cap∧zs.length≤cap∧(0 < zs.length→∃ b o,ao=some ⟨b,o,none⟩∧b < w.heap.size∧∀ k (h:k < zs.length),w.cell? ⟨b,o+k,none⟩=some (.int .i64 zs[k])):=by
 obtain ⟨_,ao,cap,rfl,h2,h3⟩:=h;refine ⟨ao,cap,rfl,h2.1,fun hn=>?_⟩;obtain ⟨b,o,rfl,hb,hc⟩:=h3 hn;exact ⟨b,o,rfl,hb,fun k hk=>(hc k (by omega)).trans (zay zs k hk)⟩
theorem zdu {P:Program} (t e:TypeId) (z:Value) (size bytes:Nat) (ht:P.underlying t=some (.slice e)) (hinfo:(P.info? e).map (fun i=>(i.zero,i.size,i.bytes))=some (some z,size,bytes))
  (kl kc:IntKind) (n:Nat) (hbytes:bytes*n≤281474976710656) (h63:n≤9223372036854775807) (w:World) :
  (Instr.makeSlice t (.int kl (n:Int)) (.int kc (n:Int))).run P w=.ok (.slice (some ⟨w.heap.size,0,none⟩) n n) (w.alloc (.cells (madeCells z.cells (n*size)) e)):=by
 obtain ⟨i,hi,hz,hs,hb⟩:=info_parts hinfo;subst hs;subst hb
 have hb':(i.bytes:Int)*(n:Int)≤281474976710656:=by
  have h:((i.bytes*n:Nat):Int)≤281474976710656:=by omega
  rwa [Int.natCast_mul] at h
 have hr:=run_make (P:=P) w t e i z ht hi hz kl kc n n (by omega) (Int.le_refl _) hb' (by omega);simp only[Int.toNat_natCast] at hr;exact hr
theorem ztz (w:World) (z:Value) (size n:Nat) (e:TypeId) (hm:n≤maxLen):Row (w.alloc (.cells (madeCells z.cells (n*size)) e)) e size w.heap.size (w.heap.size+1) (.slice (some ⟨w.heap.size,0,none⟩) n n) n (madeCells z.cells (n*size)).toList :=
 ⟨World.ownsRow_lit w _ n (Nat.le_refl _) hm (by simp[madeCells]),fun k hk=>by cases hk;exact Nat.lt_succ_self _⟩
theorem Row.at {w:World} {e:TypeId} {size lo hi:Nat} {b o n cap:Nat} {xs:List Value} (h:Row w e size lo hi (.slice (some ⟨b,o,none⟩) n cap) n xs) :
  o=0∧lo≤b∧b < hi∧b < w.heap.size∧(∀ j,w.frozen? ⟨b,j,none⟩=false)∧∀ j,j < n*size→w.cell? ⟨b,j,none⟩=xs[j]?:=by
 have ho:o=0:=by
  rcases h.1.2 with ⟨e,_⟩ | ⟨g,cp,cur,e,_⟩
  ·cases e
  ·cases e;rfl
 subst ho;exact ⟨rfl,(h.1.lt b rfl).1,h.2 b rfl,(h.1.lt b rfl).2,fun j=>h.1.frozenAt j,fun j hj=>h.1.cellAt j hj⟩
theorem Row.stored {w:World} {e:TypeId} {size lo hi:Nat} {b n cap:Nat} {xs:List Value} (h:Row w e size lo hi (.slice (some ⟨b,0,none⟩) n cap) n xs) (j:Nat) (u:Value):Row (w.setCell ⟨b,j,none⟩ u) e size lo hi (.slice (some ⟨b,0,none⟩) n cap) n (xs.set j u) :=
 ⟨(World.ownsRow.stored h.1 j u).1,h.2⟩
theorem Row.shape {w:World} {e:TypeId} {size lo hi:Nat} {v:Value} {n:Nat} {xs:List Value} (h:Row w e size lo hi v n xs):(v=.slice none 0 0∧n=0∧xs=[])∨∃ b cap,v=.slice (some ⟨b,0,none⟩) n cap∧n≤cap∧cap≤maxLen:=by
 rcases h.1.2 with ⟨rfl,rfl⟩ | ⟨g,cap,cur,rfl,_,_,hnc,hcm,_⟩
 ·exact .inl ⟨rfl,rfl,List.eq_nil_of_length_eq_zero (by simpa using h.1.1)⟩
 ·exact .inr ⟨g,cap,rfl,hnc,hcm⟩
theorem Row.len {w:World} {e:TypeId} {size lo hi:Nat} {v:Value} {n:Nat} {xs:List Value} (h:Row w e size lo hi v n xs):xs.length=n*size:=h.1.1
theorem zmp {zs:List Value} {j:Nat} {u:Value} {i:Nat} (hi:i < zs.length):(zs.set j u)[i]?=if i=j then some u else zs[i]?:=by
 by_cases e:i=j
 ·subst e;simp[hi]
 ·simp[e,show ¬ j=i from fun h=>e h.symm]
theorem ztl {P:Program} (w:World) (base:Nat) (t ty e:TypeId) (z:Value) (size bytes:Nat) (ht:P.underlying t=some (.slice e)) (hinfo:(P.info? e).map (fun i=>(i.zero,i.size,i.bytes))=some (some z,size,bytes)) (hzs:z.cells.size=size) (hsz:0 < size)
  (v:Value) (n:Nat) (xs:List Value) (hown:w.ownsRow base e size v n xs) (u:Value) (m:Nat) (ys:List Value) (hr:Rd w size u m ys) (h1:∀ u∈ys,u.oneCell'=true)
  (h63:n+m≤maxLen) (hbytes:(n+m)*bytes≤140737488355328) (hbase:base≤w.heap.size) :
  ∃ v' w',(Builtin.append_ #[t,t] ty #[v,u]).run P w=.ok v' w'∧w'.ownsRow base e size v' (n+m) (xs ++ ys)∧w.grownBy w' v.ownBlock:=by
 obtain ⟨i,hi,hz,hs,hb⟩:=info_parts hinfo;obtain ⟨hl,ao,cap,rfl,⟨_,hnone⟩,hc⟩:=hr
 cases ao with
 | none =>
  have hm:m=0:=by
   rcases Nat.eq_zero_or_pos m with h | h
   ·exact h
   ·obtain ⟨b,o,e,_⟩:=hc h;cases e
  subst hm;rw[hnone rfl];have hy:ys=[]:=List.eq_nil_of_length_eq_zero (by simpa using hl);subst hy;refine ⟨v,w,run_append_owned_none (P:=P) w base t ty e i size ht hi v n xs hown,by simpa using hown,World.grownBy.refl _ _⟩
 | some a =>
  obtain ⟨v',w',hrun,h2,h3,_⟩:=run_append_own (P:=P) w base t ty e i z size bytes ht hi hz hs hb hzs hsz v n xs hown a m cap ys hl (fun j u hu=>by
   have hj:j < ys.length:=(List.getElem?_eq_some_iff.1 hu).1
   have hm:0 < m:=by
    rcases Nat.eq_zero_or_pos m with h | h
    ·subst h;simp at hl;subst hl;simp at hj
    ·exact h
   obtain ⟨b,o,e,_,hcell⟩:=hc hm
   cases e
   rw[Addr.add_lit,hcell j (by omega)];exact hu) h1 h63 hbytes hbase
  exact ⟨v',w',hrun,h2,h3⟩
theorem zms {P:Program} (w:World) {o:Oper} {a:Act} {K:Act→World→Prop} {Q:Exit→Act→World→Prop} (s x:Operand) (t:TypeId)
  (ho:o.op=.call { callee:=.builtin .append,args:=#[s,x],argTypes:=#[t,t] })
  (base:Nat) (e:TypeId) (z:Value) (size bytes:Nat) (ht:P.underlying t=some (.slice e)) (hinfo:(P.info? e).map (fun i=>(i.zero,i.size,i.bytes))=some (some z,size,bytes)) (hzs:z.cells.size=size) (hsz:0 < size)
  (v:Value) (n:Nat) (xs:List Value) (hs:a.eval s=v) (hown:w.ownsRow base e size v n xs) (u:Value) (m:Nat) (ys:List Value) (hx:a.eval x=u) (hr:Rd w size u m ys) (h1:∀ u∈ys,u.oneCell'=true)
  (h63:n+m≤maxLen) (hbytes:(n+m)*bytes≤140737488355328) (hbase:base≤w.heap.size)
  (h:∀ v' w',w'.ownsRow base e size v' (n+m) (xs ++ ys)→w.grownBy w' v.ownBlock→K (a.put o.dst v') w'):o.wp P a w K Q:=by
 obtain ⟨v',w',hrun,h2,h3⟩:=ztl (P:=P) w base t o.type e z size bytes ht hinfo hzs hsz v n xs hown u m ys hr h1 h63 hbytes hbase;unfold Oper.wp execOp;simp only[ho,resolve,invoke,builtin,Sem.run_bind,Sem.run_pure,Result.andThen_ok,List.map_toArray,List.map_cons,List.map_nil,hs,hx,hrun];exact h v' w' h2 h3
theorem zak {P:Program} (w:World) {ops:Array Oper} {rest:List Oper} {o:Oper} {a:Act} {Q:Exit→Act→World→Prop} (hgd:o.guard=none) (s x:Operand) (t:TypeId)
  (ho:o.op=.call { callee:=.builtin .append,args:=#[s,x],argTypes:=#[t,t] })
  (base:Nat) (e:TypeId) (z:Value) (size bytes:Nat) (ht:P.underlying t=some (.slice e)) (hinfo:(P.info? e).map (fun i=>(i.zero,i.size,i.bytes))=some (some z,size,bytes)) (hzs:z.cells.size=size) (hsz:0 < size)
  (v:Value) (n:Nat) (xs:List Value) (hs:a.eval s=v) (hown:w.ownsRow base e size v n xs) (u:Value) (m:Nat) (ys:List Value) (hx:a.eval x=u) (hr:Rd w size u m ys) (h1:∀ u∈ys,u.oneCell'=true)
  (h63:n+m≤maxLen) (hbytes:(n+m)*bytes≤140737488355328) (hbase:base≤w.heap.size)
  (h:∀ v' w',w'.ownsRow base e size v' (n+m) (xs ++ ys)→w.grownBy w' v.ownBlock→wpList P ops Q rest (a.put o.dst v') w'):wpList P ops Q (o :: rest) a w :=
 wpList_plain hgd fun _ hK=>zms w s x t ho base e z size bytes ht hinfo hzs hsz v n xs hs hown u m ys hx hr h1 h63 hbytes hbase fun v' w' h2 h3=>hK _ _ (h v' w' h2 h3)
theorem zbx {P:Program} {ops:Array Oper} {o:Oper} {a:Act} {w:World} {K:Act→World→Prop} {Q:Exit→Act→World→Prop} {E:Prop}
  (hg:o.guard=none) (s x:Operand) (t:TypeId) (ho:o.op=Op.call { callee:=Callee.builtin Builtin.append,args:=#[s,x],argTypes:=#[t,t] })
  (base:Nat) (e:TypeId) (z:Value) (size bytes:Nat) (ht:P.underlying t=some (.slice e)) (hinfo:(P.info? e).map (fun i=>(i.zero,i.size,i.bytes))=some (some z,size,bytes)) (hzs:z.cells.size=size) (hsz:0 < size)
  (v:Value) (n:Nat) (xs:List Value) (hs:a.eval s=v) (hown:w.ownsRow base e size v n xs) (u:Value) (m:Nat) (ys:List Value) (hx:a.eval x=u) (hr:Rd w size u m ys) (h1:∀ u∈ys,u.oneCell'=true)
  (h63:n+m≤maxLen) (hbytes:(n+m)*bytes≤140737488355328) (hbase:base≤w.heap.size)
  (h:∀ v' w',w'.ownsRow base e size v' (n+m) (xs ++ ys)→w.grownBy w' v.ownBlock→K (a.put o.dst v') w'):if Region.wanted o (yielded ops a.tmps)=true then Oper.wp P o a w K Q else E:=by
 have hw:Region.wanted o (yielded ops a.tmps)=true:=by simp[Region.wanted,hg]
 rw[if_pos hw];exact zms w s x t ho base e z size bytes ht hinfo hzs hsz v n xs hs hown u m ys hx hr h1 h63 hbytes hbase h
theorem zai {w:World} {base:Nat} {e:TypeId} {size:Nat} {v:Value} {n:Nat} {xs:List Value} (h:w.ownsRow base e size v n xs):Row w e size base w.heap.size v n xs:=⟨h,fun k hk=>(h.lt k hk).2⟩
theorem zea (w:World) (o:Obj) (k:Nat):(w.alloc o).heap[k]?=if k=w.heap.size then some o else w.heap[k]?:=by
 show (w.heap.push o)[k]?=_
 rw[Array.getElem?_push]
theorem zag {w:World} {o:Obj} {k:Nat} (h:k=w.heap.size):(w.alloc o).heap[k]?=some o:=by rw[zea,if_pos h]
theorem zal {w:World} {o x:Obj} {k:Nat} (h:w.heap[k]?=some x):(w.alloc o).heap[k]?=some x:=by
 rw[zea,if_neg]
 ·exact h
 ·have:=(Array.getElem?_eq_some_iff.1 h).1;omega
theorem zad {w:World} {b:Nat} {t:TypeId} {x y:Value} (h:w.heap[b]?=some (.cells #[x,y] t (0,0))) :
  w.cell? ⟨b,0,none⟩=some x∧w.cell? ⟨b,1,none⟩=some y∧w.frozen? ⟨b,0,none⟩=false∧w.frozen? ⟨b,1,none⟩=false:=by
 simp[World.cell?,World.frozen?,h]
theorem zep {w:World} {b:Nat} {t:TypeId} {x y:Value} (h:w.heap[b]?=some (.cells #[x,y] t (0,0))) (u:Value):(w.setCell ⟨b,0,none⟩ u).heap[b]?=some (.cells #[u,y] t (0,0)):=by
 simp[World.setCell,Array.getElem?_modify,h]
theorem zga {w:World} {b:Nat} {t:TypeId} {x y:Value} (h:w.heap[b]?=some (.cells #[x,y] t (0,0))) (u:Value):(w.setCell ⟨b,1,none⟩ u).heap[b]?=some (.cells #[x,u] t (0,0)):=by
 simp[World.setCell,Array.getElem?_modify,h]
theorem zbl {α:Type} (f:α→List Value) (n:Nat) (hf:∀ x,(f x).length=n):∀ (l:List α) (k j:Nat) (hk:k < l.length),j < n→(l.flatMap f)[k*n+j]?=(f l[k])[j]?
 | [],k,j,hk,_=>by simp at hk
 | x :: l,0,j,_,hj=>by
  rw[List.flatMap_cons,Nat.zero_mul,Nat.zero_add,List.getElem?_append_left (by rw[hf];exact hj)];rfl
 | x :: l,k+1,j,hk,hj=>by
  have e:(k+1)*n+j=n+(k*n+j):=by rw[Nat.add_mul,Nat.one_mul];omega
  rw[List.flatMap_cons,e,List.getElem?_append_right (by rw[hf];omega),hf,Nat.add_sub_cancel_left];simpa using zbl f n hf l k j (by simpa using hk) hj
theorem zgt {α:Type} (f:α→List Value) (n:Nat) (hf:∀ x,(f x).length=n) (l:List α):(l.flatMap f).length=l.length*n:=by
 induction l with
 | nil=>simp
 | cons x l ih=>rw[List.flatMap_cons,List.length_append,hf,ih,List.length_cons,Nat.add_mul];omega
theorem zab {B:Nat} {a b c:World} (h:Below B a b) (k:Below b.heap.size b c) (hB:B≤b.heap.size):Below B a c:=h.trans (k.mono hB)
theorem zmd {a b c d:Int} (h:a=b) (k:c=d):Ending.returned (.tuple #[.int .i64 a,.int .i64 c])=.returned (.tuple #[.int .i64 b,.int .i64 d]):=by rw[h,k]
theorem Row.sameV {w w':World} {e:TypeId} {size lo hi:Nat} {v:Value} {n:Nat} {xs:List Value} (h:Row w e size lo hi v n xs) (hs:∀ b,v.ownBlock=some b→w'.heap[b]?=w.heap[b]?):Row w' e size lo hi v n xs:=by
 obtain ⟨⟨h1,h2⟩,h3⟩:=h;refine ⟨⟨h1,?_⟩,h3⟩
 rcases h2 with h2 | ⟨g,cap,cur,rfl,hb,hg,r⟩
 ·exact .inl h2
 ·exact .inr ⟨g,cap,cur,rfl,hb,(hs g rfl).trans hg,r⟩
theorem Row.setOther {w:World} {e:TypeId} {size lo hi:Nat} {v:Value} {n:Nat} {xs:List Value} (h:Row w e size lo hi v n xs) {a:Addr} (ha:v.ownBlock≠some a.block) (u:Value):Row (w.setCell a u) e size lo hi v n xs :=
 h.sameV (fun b hb=>Below.heap_setCell _ _ _ _ (fun e=>ha (by rw[hb,e])))
theorem Row.ne_type {w:World} {e:TypeId} {size lo hi:Nat} {v:Value} {n:Nat} {xs:List Value} (h:Row w e size lo hi v n xs) {b:Nat} {t:TypeId} {cs:Array Value} {fr:Nat×Nat} (hb:w.heap[b]?=some (.cells cs t fr)) (ht:t≠e):v.ownBlock≠some b:=by
 intro e0
 rcases h.1.2 with ⟨rfl,_⟩ | ⟨g,cap,cur,rfl,_,hg,_⟩
 ·cases e0
 ·cases e0
  rw[hg] at hb;simp at hb;exact ht hb.2.1.symm
theorem Row.alloc {w:World} {e:TypeId} {size lo hi:Nat} {v:Value} {n:Nat} {xs:List Value} (h:Row w e size lo hi v n xs) (hi1:hi≤w.heap.size) (o:Obj):Row (w.alloc o) e size lo hi v n xs :=
 h.below ((Below.refl _ _).alloc (Nat.le_refl _) o) hi1
theorem zas {w:World} {b:Nat} {t:TypeId} {x y z:Value} {fr:Nat×Nat} (h:w.heap[b]?=some (.cells #[x,y,z] t fr)) :
  w.cell? ⟨b,0,none⟩=some x∧w.cell? ⟨b,1,none⟩=some y∧w.cell? ⟨b,2,none⟩=some z:=by
 simp[World.cell?,h]
theorem zbd {α:Type} (l:List α) (m:Nat) (h:m < l.length):l.take (m+1)=l.take m ++ [l[m]]:=List.take_succ_eq_append_getElem h
theorem zfz:(Tryz.prog.info? 3).map (fun i=>(i.zero,i.size,i.bytes))=some (some (.int .i64 0),1,8):=by kernel_rfl
theorem zwr {w:World} {g:Nat} {zs:List Int} {f:Nat→Value} {lo hi:Nat} (h:w.rowIs g 3 zs.length f) (hf:∀ i (h:i < zs.length),f i=.int .i64 zs[i]) (h1:lo≤g) (h2:g < hi) (hm:zs.length≤maxLen) :
  Row w 3 1 lo hi (.slice (some ⟨g,0,none⟩) zs.length zs.length) zs.length (zav zs):=by
 obtain ⟨c,hb,hn,hc⟩:=h;refine ⟨⟨by simp[zav],.inr ⟨g,zs.length,c,rfl,h1,hb,Nat.le_refl _,hm,by omega,?_⟩⟩,fun k hk=>by cases hk;exact h2⟩;apply List.ext_getElem?;intro i
 by_cases hi:i < zs.length
 ·rw[List.getElem?_take,if_pos (by omega),zay zs i hi,Array.getElem?_toList,hc i hi,hf i hi]
 ·rw[List.getElem?_eq_none (by simp;omega),List.getElem?_eq_none (by simp[zav];omega)]
theorem zcn (v:Value) (zs:List Int) (w:World) (h:RdI w v zs) (hn:zs.length≤1048576) :
  Calls Tryz.prog 8 #[v] w fun e w'=>∃ v',e=.returned v'∧Row w' 3 1 w.heap.size w'.heap.size v' zs.length (zav zs)∧Below w.heap.size w w':=by
 obtain ⟨ao,cap,rfl,hcap,hc⟩:=h.shape;have hmk:=run_make_row' (P:=Tryz.prog) 22 3 (.int .i64 0) 8 Tryz.underlying22 zfz rfl .i64 .i64 zs.length (by omega) (by omega);go_enter Tryz.func8,Tryz.ntmps8;go_wp2
 go_loopw [4] (fun i wr=>∃ k:Nat,k≤zs.length∧i=.int .i64 k∧wr.rowIs w.heap.size 3 zs.length (fun j=>if h:j < k∧j < zs.length then .int .i64 zs[j] else .int .i64 0)∧Below w.heap.size w wr∧wr.heap.size=w.heap.size+1) (fun i _=>zs.length - (intOf i).toNat)
 case atStart =>
  refine ⟨0,by omega,rfl,?_,(Below.refl _ _).alloc (Nat.le_refl _) _,by simp⟩;exact (World.rowIs_made w (.int .i64 0) zs.length 3).congr (fun i hi=>by simp)
 case round =>
  obtain ⟨k,hk,rfl,hrow,hb,hz⟩:=hrel
  by_cases hlt:k < zs.length
  ·obtain ⟨b,o,rfl,hbl,hcell⟩:=hc (by omega);have hck:wr.cell? ⟨b,o+k,none⟩=some (.int .i64 zs[k]):=(hb.cell (p:=⟨b,o+k,none⟩) hbl).trans (hcell k hlt);have hfr:=hrow.frozen k;have hce:=hrow.cell hlt;have R:=hrow.set k (.int .i64 zs[k]);have B:=hb.setCell (p:=⟨w.heap.size,k,none⟩) (Nat.le_refl _) (.int .i64 zs[k]);have RH:=zaa R;have BH:=zaa B;clear R B hrow hcell hc;go_wp2
   go_roundw
   case rel =>
    refine ⟨k+1,by omega,by go_num,RH.o.congr (fun j hj=>?_),BH.o,by simp[hz]⟩
    by_cases e:j=k
    ·subst e;simp[hj]
    ·by_cases e2:j < k
     ·simp[e,e2,hj,show j < k+1 by omega]
     ·simp[e,e2,show ¬ j < k+1 by omega]
   case measure=>simp[intOf];omega
  ·have e:k=zs.length:=by omega
   subst e;go_wp2;go_ret;refine ⟨_,rfl,zwr hrow (fun i hi=>by simp[hi]) (Nat.le_refl _) (by omega) (by simp[maxLen];omega),hb⟩
theorem zfu (va vb:Value) (zs:List Int) (w:World) (ha:RdI w va zs) (hb:RdI w vb zs) (hn:zs.length≤2147483648) :
  Calls Tryz.prog 12 #[va,vb] w fun e w'=>e=.returned (.bool true)∧Below w.heap.size w w':=by
 obtain ⟨ao,cap,rfl,hcap,hc⟩:=ha.shape;obtain ⟨ao2,cap2,rfl,hcap2,hc2⟩:=hb.shape;clear ha hb;go_enter Tryz.func12,Tryz.ntmps12;go_wp2
 go_loopw [5] (fun i wr=>∃ k:Nat,k≤zs.length∧i=.int .i64 k∧Below w.heap.size w wr) (fun i _=>zs.length - (intOf i).toNat)
 case atStart=>exact ⟨0,by omega,rfl,Below.refl _ _⟩
 case round =>
  obtain ⟨k,hk,rfl,hbw⟩:=hrel
  by_cases hlt:k < zs.length
  ·obtain ⟨b,o,rfl,hbl,hcell⟩:=hc (by omega);obtain ⟨b2,o2,rfl,hbl2,hcell2⟩:=hc2 (by omega);have hck:wr.cell? ⟨b,o+k,none⟩=some (.int .i64 zs[k]):=(hbw.cell (p:=⟨b,o+k,none⟩) hbl).trans (hcell k hlt);have hck2:wr.cell? ⟨b2,o2+k,none⟩=some (.int .i64 zs[k]):=(hbw.cell (p:=⟨b2,o2+k,none⟩) hbl2).trans (hcell2 k hlt)
   have hlt':(k:Int) < (zs.length:Int):=by omega
   have hge:(0:Int)≤(k:Int):=by omega
   clear hcell hcell2 hc hc2;go_wp2
   go_quiet (fail)
   go_wp2
   go_roundw
   case rel=>exact ⟨k+1,by omega,by go_num,below_drewN hbw _⟩
   case measure=>simp[intOf];omega
  ·go_wp2;go_ret;exact ⟨rfl,hbw⟩
def zgu (k:Int) (n:Nat):List Int:=(List.range n).map (fun (i:Nat)=>k+(i:Int))
theorem zbo (k:Int) (n:Nat):(zgu k n).length=n:=by simp[zgu]
theorem yadf (k:Int) (n i:Nat) (h:i < (zgu k n).length):(zgu k n)[i]=k+(i:Int):=by simp[zgu]
theorem zzu {zs:List Value} {j:Nat} {u:Value} {i:Nat} (hi:i < zs.length):(zs.set j u)[i]?=if i=j then some u else zs[i]?:=by
 by_cases e:i=j
 ·subst e;simp[hi]
 ·simp[e,show ¬ j=i from fun h=>e h.symm]
theorem zeq {e0:TypeId} (v:Value) (n:Nat) (xs:List Value) (k0:Int) (lo hi:Nat) (w:World) (h:Row w e0 1 lo hi v n xs) (hx:∀ u∈xs,∃ z,u=.int .i64 z) (hn:n≤2147483648) (h0:0≤k0) (h1:k0≤1099511627776) :
  Calls Tryz.prog 14 #[v,.int .i64 k0] w fun e w'=>e=.returned (.int .i64 (k0+n))∧Row w' e0 1 lo hi v n (zav (zgu k0 n))∧w.grownBy w' v.ownBlock∧w'.heap.size=w.heap.size:=by
 obtain ⟨hlen,ao,cap,rfl,hcap,hc⟩:=h.rd;go_enter Tryz.func14,Tryz.ntmps14;go_wp2
 go_loopw [1,5] (fun c i wr=>∃ k:Nat,k≤n∧i=.int .i64 k∧c=.int .i64 (k0+k)∧(∃ ys:List Value,Row wr e0 1 lo hi (.slice ao n cap) n ys∧(∀ u∈ys,∃ z,u=.int .i64 z)∧∀ j,j < k→ys[j]?=some (.int .i64 (k0+j)))∧w.grownBy wr (Value.slice ao n cap).ownBlock∧wr.heap.size=w.heap.size) (fun _ i _=>n - (intOf i).toNat)
 case atStart=>exact ⟨0,by omega,rfl,by simp,⟨xs,h,hx,fun j hj=>absurd hj (by omega)⟩,World.grownBy.refl _ _,rfl⟩
 case round =>
  obtain ⟨k,hk,rfl,rfl,⟨ys,hrow,hys,hd⟩,hout,hz⟩:=hrel;clear h hx hc hlen
  by_cases hlt:k < n
  ·obtain ⟨hlen,ao',cap',e',_,hc⟩:=hrow.rd
   cases e'
   obtain ⟨b,o,rfl,hbl,hcell⟩:=hc (by omega)
   have hb1:lo≤b∧b < hi:=⟨(hrow.1.lt b rfl).1,hrow.2 b rfl⟩
   have ho:o=0:=by
    rcases hrow.1.2 with ⟨e,_⟩ | ⟨g,cp,cur,e,_⟩
    ·cases e
    ·cases e;rfl
   subst ho
   have hyl:k < ys.length:=by omega
   obtain ⟨z,hz0⟩:=hys ys[k] (List.getElem_mem hyl)
   have hck:wr.cell? ⟨b,k,none⟩=some (.int .i64 z):=by
    have:=hcell k (by omega);rw[Nat.zero_add,List.getElem?_eq_getElem hyl,hz0] at this;exact this
   have hfr:wr.frozen? ⟨b,k,none⟩=false:=hrow.1.frozenAt k;have RH:=zaa (World.ownsRow.stored hrow.1 k (.int .i64 (k0+k))).1;have OH:=zaa (zct hout (a:=⟨b,k,none⟩) rfl (.int .i64 (k0+k)));have YH:=zaa hys;have DH:=zaa hd;have LH:=zaa hrow.2;clear hrow hys hd hcell hc hz0;go_wp2
   go_roundw
   case rel =>
    refine ⟨k+1,by omega,by go_num,by go_num,⟨ys.set k (.int .i64 (k0+k)),⟨RH.o,LH.o⟩,fun u hu=>?_,fun j hj=>?_⟩,OH.o,by simp[hz]⟩
    ·rcases List.mem_or_eq_of_mem_set hu with hu | rfl
     ·exact YH.o u hu
     ·exact ⟨_,rfl⟩
    ·rw[zzu (by omega)]
     split
     ·rename_i e;rw[e]
     ·exact DH.o j (by omega)
   case measure=>simp[intOf];omega
  ·have e:k=n:=by omega
   subst e;have RH:=zaa hrow;have DH:=zaa hd;clear hrow hys hd;go_wp2;go_ret
   have e:ys=zav (zgu k0 k):=by
    apply List.ext_getElem?;intro j
    by_cases hj:j < k
    ·rw[DH.o j hj,zay _ j (by rw[zbo];exact hj),yadf]
    ·have hyl:=RH.o.1.1;rw[List.getElem?_eq_none (by omega),List.getElem?_eq_none (by rw[zdg,zbo];omega)]
   exact ⟨rfl,e ▸ RH.o,hout,hz⟩
theorem zhz (v:Value) (n:Nat) (k0:Int) (w:World) (h:RdI w v (zgu k0 n)) (hn:n≤2147483648) (h0:0≤k0) (h1:k0≤1099511627776) :
  Calls Tryz.prog 53 #[v,.int .i64 k0] w fun e w'=>e=.returned (.int .i64 (k0+n))∧w'=w:=by
 obtain ⟨ao,cap,rfl,hcap,hc⟩:=h.shape;simp only[zbo] at hcap hc ⊢;clear h;go_enter Tryz.func53,Tryz.ntmps53;go_wp2
 go_loop [1,5] (fun c i=>∃ k:Nat,k≤n∧i=.int .i64 k∧c=.int .i64 (k0+k)) (fun _ i=>n - (intOf i).toNat)
 case atStart=>exact ⟨0,by omega,rfl,by simp⟩
 case round =>
  obtain ⟨k,hk,rfl,rfl⟩:=hrel
  by_cases hlt:k < n
  ·obtain ⟨b,o,rfl,hbl,hcell⟩:=hc (by omega)
   have hck:w.cell? ⟨b,o+k,none⟩=some (.int .i64 (k0+k)):=by rw[hcell k hlt,yadf]
   clear hcell hc;go_wp2
   go_round
   case rel=>exact ⟨k+1,by omega,by go_num,by go_num⟩
   case measure=>simp[intOf];omega
  ·have e:k=n:=by omega
   subst e;go_wp2;go_ret;exact ⟨rfl,rfl⟩
def zhb (left:Int) (n:Nat):Int:=if left < n then -1 else left - n
theorem zek (ao:Option Addr) (n cap:Nat) (left:Int) (w:World) (hn:n≤maxLen) (h0:0≤left) (h1:left≤1048576) :
  Calls Tryz.prog 21 #[.slice ao n cap,.int .i64 left] w fun e w'=>e=.returned (.int .i64 (zhb left n))∧w'=w:=by
 unfold maxLen at hn
 by_cases h:left < n
 ·have e:zhb left n=-1:=by unfold zhb;rw[if_pos h]
  rw[e];clear e;go_enter Tryz.func21,Tryz.ntmps21;go_wp2;go_ret;exact ⟨rfl,rfl⟩
 ·have e:zhb left n=left - n:=by unfold zhb;rw[if_neg h]
  rw[e];clear e;go_enter Tryz.func21,Tryz.ntmps21;go_wp2;go_ret;exact ⟨rfl,rfl⟩
theorem zdw (zs:List Int):∀ u∈zav zs,u.oneCell'=true:=ints_oneCell _ zs
theorem RdI.form {w:World} {v:Value} {zs:List Int} (h:RdI w v zs) {n:Nat} (hn:zs.length=n):∃ ao cap,v=.slice ao n cap:=by
 obtain ⟨ao,cap,e,_⟩:=h.shape;exact ⟨ao,cap,by rw[← hn];exact e⟩
theorem zeo (zs:List Int) (j:Nat) (x:Int):(zav zs).set j (.int .i64 x)=zav (zs.set j x):=by simp[zav,List.map_set]
theorem zhq (zs:List Int) (x:Int):zav (zs ++ [x])=zav zs ++ [.int .i64 x]:=by simp[zav]
theorem zmo (w1:World) (x:Int):Rd (w1.alloc (.cells #[.int .i64 x] 3)) 1 (.slice (some ⟨w1.heap.size,0,none⟩) 1 1) 1 [.int .i64 x]:=by
 refine ⟨rfl,_,_,rfl,⟨Nat.le_refl _,fun e=>by cases e⟩,fun _=>⟨w1.heap.size,0,rfl,by simp,fun j hj=>?_⟩⟩
 have hj0:j=0:=by omega
 subst hj0;have e:=zag (w:=w1) (o:=.cells #[.int .i64 x] 3) rfl;simp only[World.cell?,Nat.add_zero];rw[e];rfl
structure St where
 at_:Int
 val:Int
 fl:Bool
deriving DecidableEq
def St.cells (s:St):List Value:=[.int .i64 s.at_,.int .i64 s.val,.bool s.fl]
def sts (ps:List St):List Value:=ps.flatMap St.cells
theorem St.cells_len (s:St):s.cells.length=3:=rfl
theorem zlr (ps:List St):(sts ps).length=ps.length*3:=zgt _ 3 St.cells_len ps
theorem zey (ps:List St) (k:Nat) (h:k < ps.length):(sts ps)[k*3]?=some (.int .i64 ps[k].at_):=zbl _ 3 St.cells_len ps k 0 h (by omega)
theorem zie (ps:List St) (k:Nat) (h:k < ps.length):(sts ps)[k*3+1]?=some (.int .i64 ps[k].val):=zbl _ 3 St.cells_len ps k 1 h (by omega)
theorem zhx (ps:List St) (k:Nat) (h:k < ps.length):(sts ps)[k*3+2]?=some (.bool ps[k].fl):=zbl _ 3 St.cells_len ps k 2 h (by omega)
def RdS (w:World) (v:Value) (ps:List St):Prop:=Rd w 3 v ps.length (sts ps)
theorem RdS.shape {w:World} {v:Value} {ps:List St} (h:RdS w v ps):∃ ao cap,v=.slice ao ps.length cap∧ps.length≤cap∧(0 < ps.length→∃ b o,ao=some ⟨b,o,none⟩∧b < w.heap.size ∧
  ∀ k (h:k < ps.length),w.cell? ⟨b,o+k*3,none⟩=some (.int .i64 ps[k].at_)∧w.cell? ⟨b,o+k*3+1,none⟩=some (.int .i64 ps[k].val)∧w.cell? ⟨b,o+k*3+2,none⟩=some (.bool ps[k].fl)):=by
 obtain ⟨_,ao,cap,rfl,h2,h3⟩:=h;refine ⟨ao,cap,rfl,h2.1,fun hn=>?_⟩;obtain ⟨b,o,rfl,hb,hc⟩:=h3 hn;exact ⟨b,o,rfl,hb,fun k hk=>⟨(hc (k*3) (by omega)).trans (zey ps k hk),(hc (k*3+1) (by omega)).trans (zie ps k hk),(hc (k*3+2) (by omega)).trans (zhx ps k hk)⟩⟩
theorem zkk:(Tryz.prog.info? 147).map (fun i=>(i.zero,i.size,i.bytes))=some (some (.agg #[.int .i64 0,.int .i64 0,.bool false]),3,24):=by kernel_rfl
theorem yaca (a v:Int) (f:Bool) (w:World):Calls Tryz.prog 159 #[.agg #[.int .i64 a,.int .i64 v,.bool f]] w fun e w'=>e=.returned (.agg #[.int .i64 a,.int .i64 v,.bool f])∧Below w.heap.size w w':=by
 go_enter Tryz.func159,Tryz.ntmps159;go_wp2;refine bodyPost_ret (v:=.agg #[.int .i64 a,.int .i64 v,.bool f]) (by simp[results,Tryz.results159,go_sem]) rfl ⟨rfl,?_⟩
 repeat (refine Below.alloc ?_ (by simp <;> omega) _)
 exact Below.refl _ _
def put3 (ys:List Value) (k:Nat) (a b c:Value):List Value:=((ys.set (k*3) a).set (k*3+1) b).set (k*3+2) c
theorem yapb (ys:List Value) (k:Nat) (a b c:Value):(put3 ys k a b c).length=ys.length:=by simp[put3]
theorem zgp {ys:List Value} {k:Nat} {a b c:Value} {j:Nat} (hj:j < ys.length):(put3 ys k a b c)[j]?=if j=k*3+2 then some c else if j=k*3+1 then some b else if j=k*3 then some a else ys[j]?:=by
 unfold put3;rw[zmp (by simpa using hj),zmp (by simpa using hj),zmp hj]
theorem zye {ys:List Value} {ps:List St} {k:Nat} (hk:k < ps.length) (hl:ys.length=ps.length*3) (h:∀ j,j < k*3→ys[j]?=(sts ps)[j]?) :
  ∀ j,j < (k+1)*3→(put3 ys k (.int .i64 ps[k].at_) (.int .i64 ps[k].val) (.bool ps[k].fl))[j]?=(sts ps)[j]?:=by
 intro j hj;rw[zgp (by omega)]
 split
 ·rename_i e;rw[e,zhx ps k hk]
 ·split
  ·rename_i e;rw[e,zie ps k hk]
  ·split
   ·rename_i e;rw[e,zey ps k hk]
   ·exact h j (by omega)
theorem yali {ys:List Value} {ps:List St} (hl:ys.length=ps.length*3) (h:∀ j,j < ps.length*3→ys[j]?=(sts ps)[j]?):ys=sts ps:=by
 apply List.ext_getElem?;intro j
 by_cases hj:j < ps.length*3
 ·exact h j hj
 ·rw[List.getElem?_eq_none (by omega),List.getElem?_eq_none (by rw[zlr];omega)]
theorem Row.put3 {w:World} {e:TypeId} {lo hi:Nat} {b n cap:Nat} {ys:List Value} (h:Row w e 3 lo hi (.slice (some ⟨b,0,none⟩) n cap) n ys) (k:Nat) (x y z:Value) :
  Row (((w.setCell ⟨b,k*3,none⟩ x).setCell ⟨b,k*3+1,none⟩ y).setCell ⟨b,k*3+2,none⟩ z) e 3 lo hi (.slice (some ⟨b,0,none⟩) n cap) n (put3 ys k x y z) :=
 ((h.stored (k*3) x).stored (k*3+1) y).stored (k*3+2) z
theorem zzk (v:Value) (ps:List St) (w:World) (h:RdS w v ps) (hn:ps.length≤1048576) :
  Calls Tryz.prog 114 #[v] w fun e w'=>∃ v',e=.returned v'∧Row w' 147 3 w.heap.size w'.heap.size v' ps.length (sts ps)∧Below w.heap.size w w':=by
 obtain ⟨ao,cap,rfl,hcap,hc⟩:=h.shape;clear h;have hmk:=zdu (P:=Tryz.prog) 38 147 (.agg #[.int .i64 0,.int .i64 0,.bool false]) 3 24 Tryz.underlying38 zkk .i64 .i64 ps.length (by omega) (by omega);go_enter Tryz.func114,Tryz.ntmps114;go_wp2
 go_loopw [4] (fun i wr=>∃ k:Nat,k≤ps.length∧i=.int .i64 k∧(∃ ys,Row wr 147 3 w.heap.size (w.heap.size+1) (.slice (some ⟨w.heap.size,0,none⟩) ps.length ps.length) ps.length ys∧∀ j,j < k*3→ys[j]?=(sts ps)[j]?)∧Below w.heap.size w wr∧w.heap.size+1≤wr.heap.size) (fun i _=>ps.length - (intOf i).toNat)
 case atStart =>
  refine ⟨0,by omega,rfl,⟨_,ztz w (.agg #[.int .i64 0,.int .i64 0,.bool false]) 3 ps.length 147 (by simp[maxLen];omega),fun j hj=>absurd hj (by omega)⟩,(Below.refl _ _).alloc (Nat.le_refl _) _,by simp⟩
 case round =>
  obtain ⟨k,hk,rfl,⟨ys,hrow,hys⟩,hb,hz⟩:=hrel
  by_cases hlt:k < ps.length
  ·obtain ⟨b,o,rfl,hbl,hcell⟩:=hc (by omega);obtain ⟨c0,c1,c2⟩:=hcell k hlt;have d0:=(hb.cell (p:=⟨b,o+k*3,none⟩) hbl).trans c0;have d1:=(hb.cell (p:=⟨b,o+k*3+1,none⟩) hbl).trans c1;have d2:=(hb.cell (p:=⟨b,o+k*3+2,none⟩) hbl).trans c2;have RH:=zaa hrow;have YH:=zaa hys;clear hcell hc c0 c1 c2 hrow hys;go_wp2_with fail;refine (yaca _ _ _ _).mono ?_;rintro e w1 ⟨rfl,hb1⟩;have R1:=zaa (RH.o.below hb1 (by omega))
   obtain ⟨_,_,_,hsz,hfr,hcl⟩:=R1.o.at
   have hl:=RH.o.len;have f0:=hfr (k*3);have f1:=hfr (k*3+1);have f2:=hfr (k*3+2)
   have e0:w1.cell? ⟨w.heap.size,k*3,none⟩=some (ys[k*3]'(by omega)):=by rw[hcl _ (by omega)];simp
   have e1:w1.cell? ⟨w.heap.size,k*3+1,none⟩=some (ys[k*3+1]'(by omega)):=by rw[hcl _ (by omega)];simp
   have e2:w1.cell? ⟨w.heap.size,k*3+2,none⟩=some (ys[k*3+2]'(by omega)):=by rw[hcl _ (by omega)];simp
   have BH:=zaa (hb.trans (hb1.mono (show w.heap.size≤wr.heap.size by omega)));have hz1:=hb1.size;clear hfr hcl hb1 hb d0 d1 d2;have P1:=zaa (R1.o.put3 k (.int .i64 ps[k].at_) (.int .i64 ps[k].val) (.bool ps[k].fl));have B1:=zaa (((BH.o.setCell (p:=⟨w.heap.size,k*3,none⟩) (Nat.le_refl _) (.int .i64 ps[k].at_)).setCell (p:=⟨w.heap.size,k*3+1,none⟩) (Nat.le_refl _) (.int .i64 ps[k].val)).setCell (p:=⟨w.heap.size,k*3+2,none⟩) (Nat.le_refl _) (.bool ps[k].fl));go_wp2
   go_roundw
   case rel=>exact ⟨k+1,by omega,by go_num,⟨_,P1.o,zye hlt hl YH.o⟩,B1.o,by simp;omega⟩
   case measure=>simp[intOf];omega
  ·have e:k=ps.length:=by omega
   subst e;have hl:=hrow.len;have RH:=zaa hrow;have YH:=zaa hys;clear hrow hys hc;go_wp2;go_ret;have e:=yali hl YH.o;refine ⟨_,rfl,?_,hb⟩;rw[← e];exact RH.o.wide (Nat.le_refl _) hz
theorem zmz (ao:Option Addr) (n cap:Nat) (left:Int) (w:World) (hn:n≤maxLen) (h0:0≤left) (h1:left≤1048576) :
  Calls Tryz.prog 105 #[.slice ao n cap,.int .i64 left] w fun e w'=>e=.returned (.int .i64 (zhb left n))∧w'=w:=by
 unfold maxLen at hn
 by_cases h:left < n
 ·have e:zhb left n=-1:=by unfold zhb;rw[if_pos h]
  rw[e];clear e;go_enter Tryz.func105,Tryz.ntmps105;go_wp2;go_ret;exact ⟨rfl,rfl⟩
 ·have e:zhb left n=left - n:=by unfold zhb;rw[if_neg h]
  rw[e];clear e;go_enter Tryz.func105,Tryz.ntmps105;go_wp2;go_ret;exact ⟨rfl,rfl⟩
theorem zxy (a v:Int) (f:Bool) (w:World):Calls Tryz.prog 116 #[.agg #[.int .i64 a,.int .i64 v,.bool f],.agg #[.int .i64 a,.int .i64 v,.bool f]] w fun e w'=>e=.returned (.bool true)∧Below w.heap.size w w':=by
 go_enter Tryz.func116,Tryz.ntmps116;go_wp2;go_ret;refine ⟨rfl,?_⟩
 repeat (refine Below.alloc ?_ (by simp <;> omega) _)
 exact Below.refl _ _
end Go.Proofs.YtahiphgmhndgaaaGreatDoor
