import Derived.Test.YtcmgclckknpecaaGreatDoorKau
import Derived.Test.YtcmgclckknpecaaGreatDoorKbg
import Derived.Test.YtcmgclckknpecaaGreatDoorKbl
namespace Go.Proofs.YtcmgclckknpecaaGreatDoor
open Go.RowKit Go.Maps Go.Shelf
abbrev Fe:=Nat × (ByteArray × ByteArray) × Nat
abbrev Dl:=List (Nat × List ByteArray)
def dhas (id:Int) (ds:Dl):Bool:=ds.any fun d=>decide ((d.1:Int)=id)
def Mk (w:World) (i:Nat):Prop:=(∃ es c,w.heap[i]?=some (.map es c))∨∃ c f,w.heap[i]?=some (.cells c 175 f)
structure Fok (B:Nat) (F X Y:Nat→Prop) (w:World):Prop where
 p:0<B
 k:∀ i,F i∨X i∨Y i→B≤i∧Mk w i
structure Kc (B:Nat) (w w':World):Prop where
 b:Below B w w'
 c:∀ (k:Nat) (cs:Array Value) (t:TypeId) (f:Nat × Nat),t≠3→t≠175→w.heap[k]?=some (Obj.cells cs t f)→w'.heap[k]?=some (Obj.cells cs t f)
theorem Kc.trans {B:Nat} {x y z:World} (h:Kc B x y) (k:Kc B y z):Kc B x z:=⟨h.b.trans k.b,fun i c t f h1 h2 e=>k.c i c t f h1 h2 (h.c i c t f h1 h2 e)⟩
theorem Mv.kc {B:Nat} {F X Y:Nat→Prop} {w w':World} (h:Mv B F X Y w w') (hB:B≤w.heap.size) (hF:Fok B F X Y w):Kc B w w':=by
 refine ⟨⟨h.os,h.tape,h.output,h.size,fun k hk=>h.block k (by omega) (fun q=>?_) (fun q=>?_) (fun q=>?_) (fun q=>by omega)⟩,fun k c t f h3 h175 e=>h.cells e h3 (fun q=>?_) (fun q=>?_) (fun q=>?_)⟩
 ·have:=(hF.k k (.inl q)).1;omega
 ·have:=(hF.k k (.inr (.inl q))).1;omega
 ·have:=(hF.k k (.inr (.inr q))).1;omega
 ·rcases (hF.k k (.inl q)).2 with ⟨es,c,x⟩ | ⟨c,f,x⟩
  ·rw [e] at x;cases x
  ·rw [e] at x;injection x with x;injection x with _ x _;exact h175 x
 ·rcases (hF.k k (.inr (.inl q))).2 with ⟨es,c,x⟩ | ⟨c,f,x⟩
  ·rw [e] at x;cases x
  ·rw [e] at x;injection x with x;injection x with _ x _;exact h175 x
 ·rcases (hF.k k (.inr (.inr q))).2 with ⟨es,c,x⟩ | ⟨c,f,x⟩
  ·rw [e] at x;cases x
  ·rw [e] at x;injection x with x;injection x with _ x _;exact h175 x
theorem Kc.below {B:Nat} {w w':World} (hB:B≤w.heap.size) (h:Below w.heap.size w w'):Kc B w w':=⟨h.mono hB,fun k _ _ _ _ _ e=>(h.block k (Array.getElem?_eq_some_iff.1 e).1).trans e⟩
theorem Kc.agr [Inhabited Exb] {B:Nat} {w w':World} (h:Kc B w w') (hp:0<B):Agr w w':=⟨h.b.size,fun k o ho hk=>by
 rcases hk with rfl | ⟨c,t,fz,rfl,ht⟩
 ·exact (h.b.block 0 hp).trans ho
 ·exact h.c k c t fz (by rintro rfl;simp at ht) (by rintro rfl;simp at ht) ho⟩
theorem Kc.row {B:Nat} {w w':World} (h:Kc B w w') {base:Nat} {t:TypeId} {sz n:Nat} {v:Value} {xs:List Value} (hr:w.ownsRow base t sz v n xs) (h3:t≠3) (h175:t≠175):w'.ownsRow base t sz v n xs:=by
 refine ⟨hr.1,?_⟩
 rcases hr.2 with q | ⟨g,cap,cur,q1,q2,q3,q4⟩
 ·exact .inl q
 ·exact .inr ⟨g,cap,cur,q1,q2,h.c _ _ _ _ h3 h175 q3,q4⟩
structure Dcs [Inhabited Exb] (m:Nat) (ds:Dl) (w:World):Prop where
 ex:∃ D,w.ownsMap Tryz.prog 3 slE m ds.length D∧Maps.size D=ds.length∧(∀ id:Int,Maps.has D (.int .i64 id)=dhas id ds)∧∀ d∈ds,∃ v,(∀ z,D.atKey (.int .i64 (d.1:Int)) z=.held v)∧w.ownsRow 0 9 1 v d.2.length (d.2.map .string)∧∀ g,v.ownBlock=some g→¬ (default:Exb).p g
theorem Dcs.keep [Inhabited Exb] {m:Nat} {ds:Dl} {w w':World} (h:Dcs m ds w) (ha:Agr w w') (hm:w'.heap[m]?=w.heap[m]?):Dcs m ds w':=by
 obtain ⟨D,⟨es,c,h1,h2⟩,h3,h4,h5⟩:=h.ex
 exact ⟨D,⟨es,c,hm.trans h1,h2⟩,h3,h4,fun d hd=>let ⟨v,q1,q2,q3⟩:=h5 d hd;⟨v,q1,ownsRow_agr ha q2 (.inl ⟨rfl,q3⟩),q3⟩⟩
theorem ownsMap_size {w:World} {P:Program} {k:TypeId} {R:Value→Option (DataW Value × List MemPlace)} {b n:Nat} {D:DataW Value} (h:w.ownsMap P k R b n D):w.ownsMap P k R b (Maps.size D) D:=by
 obtain ⟨es,c,hb,F,hs,rfl⟩:=h
 exact ⟨es,c,hb,F,by simp [Maps.size,length_sorted],rfl⟩
structure Eng [Inhabited Exb] (B b:Nat) (L:List Fe) (m:Nat) (ds:Dl) (X:Nat→Prop) (w:World):Prop where
 e:∃ g cap,Blk b 157 #[.slice (some ⟨g,0,none⟩) L.length cap,.map (some m)] w∧w.ownsRow 0 167 1 (.slice (some ⟨g,0,none⟩) L.length cap) L.length (L.map fun f=>.pointer (some ⟨f.1,0,none⟩))
 f:∀ f∈L,FA f.1 f.2.1.1 f.2.1.2 f.2.2 (Pl.chOf f.2.1) w∧X f.2.2∧B≤f.1
 d:Dcs m ds w
 p:0<B∧B≤m∧¬ X m
 n:(L.map (·.1)).Nodup
 l:0<L.length∧L.length≤3
def EF (L:List Fe) (m:Nat) (i:Nat):Prop:=i=m∨∃ f∈L,i=f.1
theorem Eng.fok [Inhabited Exb] {B b:Nat} {L:List Fe} {m:Nat} {ds:Dl} {X Y:Nat→Prop} {N:Nat} {w:World} (h:Eng B b L m ds X w) (hG:Gl B X Y N w):Fok B (EF L m) X Y w:=by
 refine ⟨h.p.1,fun i hi=>?_⟩
 rcases hi with (rfl | ⟨f,hf,rfl⟩) | hi | hi
 ·obtain ⟨D,⟨es,c,q,_⟩,_⟩:=h.d.ex
  exact ⟨h.p.2.1,.inl ⟨es,c,q⟩⟩
 ·obtain ⟨q1,_,q2⟩:=h.f f hf
  obtain ⟨cs,q3,_⟩:=q1.blk
  exact ⟨q2,.inr ⟨cs,_,q3⟩⟩
 ·obtain ⟨q,es,c,e⟩:=hG.x_map hi
  exact ⟨q,.inl ⟨es,c,e⟩⟩
 ·obtain ⟨q,es,c,e⟩:=hG.y_map hi
  exact ⟨q,.inl ⟨es,c,e⟩⟩
structure Kd [Inhabited Exb] (w w':World):Prop where
 a:Agr w w'
 c:∀ (k:Nat) (cs:Array Value) (t:TypeId) (f:Nat × Nat),(t=157∨t=167∨t=189∨t=194)→w.heap[k]?=some (Obj.cells cs t f)→w'.heap[k]?=some (Obj.cells cs t f)
theorem Kc.kd [Inhabited Exb] {B:Nat} {w w':World} (h:Kc B w w') (hp:0<B):Kd w w':=⟨h.agr hp,fun k cs t f ht=>h.c k cs t f (by rintro rfl;simp at ht) (by rintro rfl;simp at ht)⟩
theorem Kd.row [Inhabited Exb] {w w':World} (h:Kd w w') {base:Nat} {t:TypeId} {sz n:Nat} {v:Value} {xs:List Value} (hr:w.ownsRow base t sz v n xs) (ht:t=157∨t=167∨t=189∨t=194):w'.ownsRow base t sz v n xs:=by
 refine ⟨hr.1,?_⟩
 rcases hr.2 with q | ⟨g,cap,cur,q1,q2,q3,q4⟩
 ·exact .inl q
 ·exact .inr ⟨g,cap,cur,q1,q2,h.c _ _ _ _ ht q3,q4⟩
theorem Kd.far [Inhabited Exb] {w w':World} {r:Option Nat} (hg:w.grownBy w' r) (h:∀ i,r=some i→i≠0∧∀ cs t f,(t=157∨t=167∨t=189∨t=194∨t=9∨t=96∨t=357∨t=372)→w.heap[i]?≠some (Obj.cells cs t f)):Kd w w':=by
 refine ⟨Agr.of_grown hg fun i o e ho hk=>?_,fun k cs t f ht e=>(hg.block k (Array.getElem?_eq_some_iff.1 e).1 fun q=>?_).trans e⟩
 ·rcases hk with q | ⟨c,t,fz,rfl,ht⟩
  ·exact (h i e).1 q
  ·exact (h i e).2 _ _ _ (.inr (.inr (.inr (.inr (ht.imp_left And.left))))) ho
 ·refine (h k q.symm).2 _ _ _ ?_ e
  rcases ht with h | h | h | h
  ·exact .inl h
  ·exact .inr (.inl h)
  ·exact .inr (.inr (.inl h))
  ·exact .inr (.inr (.inr (.inl h)))
theorem Kd.box [Inhabited Exb] {w w':World} {k:Nat} {c:Array Value} {f:Nat × Nat} (hg:w.grownBy w' (some k)) (h0:k≠0) (hk:w.heap[k]?=some (.cells c 9 f)) (hp:(default:Exb).p k):Kd w w':=by
 refine ⟨Agr.of_grown hg fun i o e ho hq=>?_,fun j cs t f' ht e=>(hg.block j (Array.getElem?_eq_some_iff.1 e).1 fun q=>?_).trans e⟩
 ·injection e with e
  subst e
  rcases hq with q | ⟨c',t,fz,rfl,ht⟩
  ·exact h0 q
  ·rw [hk] at ho
   injection ho with ho
   injection ho with _ ho _
   subst ho
   rcases ht with ht | ht
   ·exact ht.2 hp
   ·revert ht;decide
 ·injection q with q
  subst q
  rw [hk] at e
  injection e with e
  injection e with _ e _
  subst e
  revert ht;decide
theorem Eng.keepd [Inhabited Exb] {B b:Nat} {L:List Fe} {m:Nat} {ds:Dl} {X X':Nat→Prop} {w w':World} (h:Eng B b L m ds X w) (k:Kd w w') (hX:∀ i,X i→X' i) (hXm:¬ X' m) (hm:w'.heap[m]?=w.heap[m]?) (hf:∀ f∈L,w'.heap[f.1]?=w.heap[f.1]?∨FA f.1 f.2.1.1 f.2.1.2 f.2.2 (Pl.chOf f.2.1) w'):Eng B b L m ds X' w':=by
 obtain ⟨g,cap,h1,h2⟩:=h.e
 refine ⟨⟨g,cap,k.c _ _ _ _ (.inl rfl) h1,k.row h2 (.inr (.inl rfl))⟩,fun f q=>?_,h.d.keep k.a hm,⟨h.p.1,h.p.2.1,hXm⟩,h.n,h.l⟩
 obtain ⟨q1,q2,q3⟩:=h.f f q
 refine ⟨?_,hX _ q2,q3⟩
 rcases hf f q with hf | hf
 ·refine q1.keep k.a fun i c t fz ht e=>?_
  rcases ht with ⟨rfl,rfl⟩ | rfl | rfl
  ·exact hf.trans e
  ·exact k.c i c 189 fz (.inr (.inr (.inl rfl))) e
  ·exact k.c i c 194 fz (.inr (.inr (.inr rfl))) e
 ·exact hf
theorem Eng.keep [Inhabited Exb] {B b:Nat} {L:List Fe} {m:Nat} {ds:Dl} {X X':Nat→Prop} {w w':World} (h:Eng B b L m ds X w) (k:Kc B w w') (hX:∀ i,X i→X' i) (hXm:¬ X' m) (hm:w'.heap[m]?=w.heap[m]?) (hf:∀ f∈L,w'.heap[f.1]?=w.heap[f.1]?):Eng B b L m ds X' w' :=
 h.keepd (k.kd h.p.1) hX hXm hm fun f q=>.inl (hf f q)
theorem Eng.below [Inhabited Exb] {B b:Nat} {L:List Fe} {m:Nat} {ds:Dl} {X:Nat→Prop} {w w':World} (h:Eng B b L m ds X w) (hB:B≤w.heap.size) (hb:Below w.heap.size w w'):Eng B b L m ds X w':=by
 refine h.keep (Kc.below hB hb) (fun _ q=>q) h.p.2.2 (hb.block m ?_) fun f hf=>hb.block f.1 ?_
 ·obtain ⟨D,q,_⟩:=h.d.ex
  exact q.lt
 ·obtain ⟨cs,q,_⟩:=(h.f f hf).1.blk
  exact q.lt
theorem slE_at {w:World} {m n:Nat} {D:DataW Value} (h:w.ownsMap Tryz.prog 3 slE m n D) {id:Int} (hid:(Lit.int .i64 id).wf=true):∃ p k c,D.atKey (.int .i64 id) nlS=.held (.slice p k c):=by
 obtain ⟨v,ps,_,hv⟩:=h.lookup (t:=337) (e:=55) keyI Tryz.underlying337 (zero55 w) (zd:=nlS) (zp:=[]) rfl (klI hid)
 have:=slE_held hv
 rw [this] at hv
 cases v <;> simp [slE] at hv
 exact ⟨_,_,_,this⟩
set_option maxRecDepth 100000 in
theorem has_any [Inhabited Exb] (B b:Nat) (L:List Fe) (m:Nat) (ds:Dl) (X:Nat→Prop) (id:Int) (w:World) (hE:Eng B b L m ds X w) (hid:(Lit.int .i64 id).wf=true) (R:Bool) (HR:Hid (dhas id ds=R)) :
  Calls Tryz.prog 52 #[.pointer (some ⟨b,0,none⟩),.int .i64 id] w fun e w'=>e=.returned (.bool R)∧Below w.heap.size w w':=by
 obtain ⟨g,cap,h1,_⟩:=hE.e
 obtain ⟨D,h2,_,h3,_⟩:=hE.d.ex
 obtain ⟨p,k,c,h4⟩:=slE_at h2 hid
 have c1:w.cell? ⟨b,1,none⟩=some (.map (some m)):=blk_cell h1 1
 have HH:Hid (Maps.has D (.int .i64 id)=R):=(h3 id).trans HR.out
 have HA:Hid (D.atKey (.int .i64 id) nlS=.held (.slice p k c)):=h4
 clear h1 h3 h4 hE HR
 go_enter Tryz.func52,Tryz.ntmps52
 go_wp2_with (at_lookup;refine wpList_lookup_tok_ok _ rfl _ _ 154 rfl 3 63 keyI Tryz.underlying154 slE (fun _ _ _ h=>slE_held h) (zero63 _) nlS [] rfl m ds.length D rfl h2 _ _ rfl (klI hid) (.slice p k c) HA.out R HH.out ?_)
 go_ret
 exact ⟨rfl,Below.refl _ _⟩
theorem dhas_filter (id x:Int):∀ ds:Dl,dhas x (ds.filter fun d=>!decide ((d.1:Int)=id))=(dhas x ds && !decide (x=id))
 | []=>by simp [dhas]
 | d :: r=>by
  have ih:=dhas_filter id x r
  unfold dhas at ih ⊢
  rw [List.filter_cons,List.any_cons]
  by_cases h:(d.1:Int)=id
  ·simp only [h,decide_true,Bool.not_true]
   rw [if_neg (by simp),ih]
   by_cases hx:x=id
   ·subst hx;simp
   ·have:¬ id=x:=fun e=>hx e.symm
    simp [hx,this]
  ·simp only [h,decide_false,Bool.not_false,if_true,List.any_cons]
   rw [ih]
   by_cases hx:(d.1:Int)=x
   ·have:¬ x=id:=fun e=>h (by omega)
    simp [hx,this]
   ·simp [hx]
def Dnd (ds:Dl):Prop:=(ds.map (·.1)).Nodup
theorem filter_len (id:Int):∀ ds:Dl,Dnd ds→(ds.filter fun d=>!decide ((d.1:Int)=id)).length+(if dhas id ds=true then 1 else 0)=ds.length
 | [],_=>by simp [dhas]
 | d :: r,hn=>by
  have hn':d.1 ∉ r.map (·.1)∧(r.map (·.1)).Nodup:=by simpa [Dnd] using hn
  have ih:=filter_len id r hn'.2
  by_cases h:(d.1:Int)=id
  ·have hno:dhas id r=false:=by
    unfold dhas
    rw [List.any_eq_false]
    intro x hx hq
    exact hn'.1 (List.mem_map.2 ⟨x,hx,by simp at hq;omega⟩)
   rw [hno] at ih
   simp [dhas,h] at ih ⊢
   exact ih
  ·have e:dhas id (d :: r)=dhas id r:=by simp [dhas,h]
   rw [e]
   simp only [List.filter_cons,h,decide_false,Bool.not_false,if_true,List.length_cons]
   omega
theorem Dcs.del [Inhabited Exb] {m:Nat} {ds:Dl} {w w':World} {id:Int} {D:DataW Value} (h:Dcs m ds w) (hn:Dnd ds) (hD:w.ownsMap Tryz.prog 3 slE m ds.length D) (ho:w'.ownsMap Tryz.prog 3 slE m ds.length (D.del (.int .i64 id))) (ha:Agr w w'):Dcs m (ds.filter fun d=>!decide ((d.1:Int)=id)) w':=by
 obtain ⟨D',h1,h2,h3,h4⟩:=h.ex
 obtain rfl:=ownsMap_fun hD h1
 have hsz:Maps.size (D.del (.int .i64 id))=(ds.filter fun d=>!decide ((d.1:Int)=id)).length:=by
  have q1:=size_del (k:=.int .i64 id) (hD.tidy keyI)
  have q2:=filter_len id ds hn
  rw [h3,h2] at q1
  omega
 refine ⟨_,hsz ▸ ownsMap_size ho,hsz,fun x=>?_,fun d hd=>?_⟩
 ·rw [dhas_filter]
  by_cases hx:x=id
  ·subst hx
   rw [has_del_same];simp
  ·rw [has_del_other (by simpa using hx),h3];simp [hx]
 ·obtain ⟨hd1,hd2⟩:=List.mem_filter.1 hd
  obtain ⟨v,q1,q2,q3⟩:=h4 d hd1
  refine ⟨v,fun z=>?_,ownsRow_agr ha q2 (.inl ⟨rfl,q3⟩),q3⟩
  rw [atKey_del_other (by simpa using hd2)]
  exact q1 z
structure DrL (B:Nat) (L:List Fe) (X Y:Nat→Prop) (N:Nat) (w1:World) (iv:Value) (wr:World):Prop where
 ex:∃ j:Nat,iv=.int .i64 (j:Int)∧j≤L.length∧Gl B X Y N wr∧Mv B (fun _=>False) X Y w1 wr
structure DrO [Inhabited Exb] (B b:Nat) (L:List Fe) (m:Nat) (ds:Dl) (X Y:Nat→Prop) (N:Nat) (w w':World):Prop where
 e:Eng B b L m ds X w'
 g:Gl B X Y N w'
 m:Mv B (EF L m) X Y w w'
set_option maxRecDepth 100000 in
set_option maxHeartbeats 2000000 in
theorem edrop_any [Inhabited Exb] (B b:Nat) (L:List Fe) (m:Nat) (ds:Dl) (X Y:Nat→Prop) (N:Nat) (id:Int) (w:World) (hE:Eng B b L m ds X w) (hG:Gl B X Y N w) (hB:B≤w.heap.size) (hYm:¬ Y m) (hn:Dnd ds) (hid:(Lit.int .i64 id).wf=true) :
  Calls Tryz.prog 149 #[.pointer (some ⟨b,0,none⟩),.int .i64 id] w fun e w'=>e=.returned (.tuple #[])∧DrO B b L m (ds.filter fun d=>!decide ((d.1:Int)=id)) X Y N w w':=by
 obtain ⟨g,cap,h1,hrow⟩:=hE.e
 obtain ⟨D,h2,_⟩:=hE.d.ex
 have c1:w.cell? ⟨b,1,none⟩=some (.map (some m)):=blk_cell h1 1
 have hbm:b≠m:=fun e=>by
  subst e
  obtain ⟨es,c,q,_⟩:=h2
  rw [show w.heap[b]?=_ from h1] at q
  cases q
 have hl3:=hE.l.2
 go_enter Tryz.func149,Tryz.ntmps149
 go_wp2_with (at_delete;refine wpList_delete_own _ rfl _ _ 154 3 rfl 63 keyI Tryz.underlying154 _ m ds.length D rfl h2 _ _ rfl (klI hid) ?_;intro w1 hown1 hturn1;have hg1:=hturn1.grown;have c0:w1.cell? ⟨b,0,none⟩=some (.slice (some ⟨g,0,none⟩) L.length cap):=(blk_cell (h1.keep hg1 (by simpa using Ne.symm hbm)) 0))
 have hM1:Mv B (EF L m) X Y w w1:=Mv.grown hg1 fun i e=>by cases e;exact .inr (.inl (.inl rfl))
 have hK1:=hM1.kc hB (hE.fok hG)
 have hG1:Gl B X Y N w1:=hG.far hg1 hE.p.2.2 hYm fun c f q=>by obtain ⟨es,c,q2,_⟩:=h2;rw [q2] at q;cases q
 have hE1:Eng B b L m (ds.filter fun d=>!decide ((d.1:Int)=id)) X w1:=by
  have hff:∀ f∈L,w1.heap[f.1]?=w.heap[f.1]?:=fun f hf=>by
   obtain ⟨cs,q,_⟩:=(hE.f f hf).1.blk
   refine hg1.block f.1 q.lt fun e=>?_
   injection e with e
   rw [e] at q
   obtain ⟨es,c,q2,_⟩:=h2
   rw [show w.heap[m]?=_ from q] at q2
   cases q2
  exact ⟨⟨g,cap,hK1.c _ _ _ _ (by decide) (by decide) h1,hK1.row hrow (by decide) (by decide)⟩,fun f hf=>by
   obtain ⟨q1,q2,q3⟩:=hE.f f hf
   refine ⟨q1.keep (hK1.agr hE.p.1) fun i c t fz ht e=>?_,q2,q3⟩
   rcases ht with ⟨rfl,rfl⟩ | rfl | rfl
   ·exact (hff f hf).trans e
   ·exact hK1.c i c 189 fz (by decide) (by decide) e
   ·exact hK1.c i c 194 fz (by decide) (by decide) e,hE.d.del hn h2 hown1 (hK1.agr hE.p.1),hE.p,hE.n,hE.l⟩
 have hB1:B≤w1.heap.size:=by have:=hg1.size;omega
 have HM1:Hid (Mv B (EF L m) X Y w w1):=hM1
 have HE1:Hid (Eng B b L m (ds.filter fun d=>!decide ((d.1:Int)=id)) X w1):=hE1
 have HKP:Hid (∀ W,Mv B (fun _=>False) X Y w1 W→∀ j (hj:j<L.length),W.cell? ⟨g,j,none⟩=some (.pointer (some ⟨(L[j]).1,0,none⟩))∧W.cell? ⟨(L[j]).1,15,none⟩=some (.map (some (L[j]).2.2))∧X (L[j]).2.2):=fun W hW j hj=>by
  have hFk:Fok B (fun _=>False) X Y w1:=⟨hE.p.1,fun i hi=>(hE1.fok hG1).k i (hi.elim (fun q=>q.elim) .inr)⟩
  have hK:=hW.kc hB1 hFk
  obtain ⟨g',cap',q1,q2⟩:=hE1.e
  obtain ⟨f1,f2,f3⟩:=hE1.f _ (List.getElem_mem hj)
  obtain ⟨cs,b1,_,_,b2⟩:=f1.blk
  have eg:g'=g:=by
   have e1:=blk_cell (show Blk b 157 _ w1 from q1) 0
   rw [c0] at e1
   simp at e1
   exact e1.1.symm
  subst eg
  have hr:=hK.row q2 (by decide) (by decide)
  refine ⟨?_,?_,f2⟩
  ·have:=hr.cells (g:=g') rfl j (.pointer (some ⟨(L[j]).1,0,none⟩)) (by simp [hj])
   rw [show ((⟨g',0,none⟩:Addr).add j)=⟨g',j,none⟩ by unfold Addr.add;split <;> simp_all] at this
   exact this
  ·have hb2:W.heap[(L[j]).1]?=some (.cells cs 175 (0,0)):=hW.cells b1 (by decide) (fun q=>q) (hG1.not_cells b1).1 (hG1.not_cells b1).2
   simp [World.cell?,hb2,b2]
 clear hE hE1 hrow h1 c1 hown1 hturn1 hM1 hK1
 go_wp2_with fail
 go_loopw [16] (fun iv wr=>DrL B L X Y N w1 iv wr) (fun iv _=>L.length - (intOf iv).toNat)
 case atStart=>exact ⟨0,rfl,by omega,hG1,Mv.refl _ _ _ _ _⟩
 case round =>
  obtain ⟨j,rfl,hj,hGr,hMr⟩:=hrel.ex
  clear hrel
  by_cases hjl:j<L.length
  ·have hjI:(j:Int)<(L.length:Int):=by omega
   obtain ⟨k0,k1,k2⟩:=HKP.out wr hMr j hjl
   obtain ⟨⟨fb,fn,ib⟩,hf⟩:∃ f,L[j]=f:=⟨_,rfl⟩
   rw [hf] at k0 k1 k2
   simp only at k0 k1 k2
   clear hf
   have HDR:Hid (Calls Tryz.prog 229 #[.map (some ib),.int .i64 id] wr fun e w'=>e=.returned (.tuple #[])∧Gl B X Y N w'∧Mv B (fun _=>False) X Y wr w'):=ixdrop_any B (fun _=>False) X Y N ib id wr hGr k2 hid
   go_wp2_with fail
   refine HDR.out.mono ?_
   rintro e w2 ⟨rfl,hG2,hM2⟩
   have hM3:=hMr.trans hM2 (fun _ q=>.inl q) (fun _ q=>.inl q) (fun _ q=>.inl q)
   clear HDR hGr hMr hM2
   go_wp2_with fail
   exact ⟨⟨j+1,by go_num,by omega,hG2,hM3⟩,by simp [intOf];omega⟩
  ·have hjI:¬ (j:Int)<(L.length:Int):=by omega
   go_wp2_with fail
   go_end0
   have hE1:=HE1.out
   have hFk:Fok B (fun _=>False) X Y w1:=⟨hE1.p.1,fun i hi=>(hE1.fok hG1).k i (hi.elim (fun q=>q.elim) .inr)⟩
   have hK:=hMr.kc hB1 hFk
   refine ⟨rfl,hE1.keep hK (fun _ q=>q) hE1.p.2.2 ?_ fun f hf=>?_,hGr,HM1.out.trans hMr (fun _ q=>q.elim) (fun _ q=>.inl q) (fun _ q=>.inl q)⟩
   ·obtain ⟨D',q,_⟩:=hE1.d.ex
    obtain ⟨es,c,q2,_⟩:=q
    exact hMr.block m (Array.getElem?_eq_some_iff.1 q2).1 (fun q=>q) hE1.p.2.2 hYm fun _ c f q3=>by rw [q2] at q3;cases q3
   ·obtain ⟨cs,b1,_⟩:=(hE1.f f hf).1.blk
    exact (hMr.cells b1 (by decide) (fun q=>q) (hG1.not_cells b1).1 (hG1.not_cells b1).2).trans (Eq.symm b1)
end Go.Proofs.YtcmgclckknpecaaGreatDoor
