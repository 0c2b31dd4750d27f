import Derived.Test.YtcmgclckknpecaaGreatDoorProg
import Derived.WalkKit
import Derived.Below
import Derived.Maps.Own
import Derived.Maps.OwnOps
import Derived.Maps.OwnSet
import Derived.Maps.RangeWalk
import Derived.Deep.AppendLies
namespace Go.Proofs.YtcmgclckknpecaaGreatDoor
open Go.RowKit Go.Maps
def mpE (v:Value):Option (DataW Value × List MemPlace):=match v with | .map o=>some (.held (.map o),[]) | _=>none
def slE (v:Value):Option (DataW Value × List MemPlace):=match v with | .slice a n c=>some (.held (.slice a n c),[]) | _=>none
theorem mpE_held {v:Value} {d:DataW Value} {ps:List MemPlace} (h:mpE v=some (d,ps)):d=.held v:=by cases v <;> simp [mpE] at h;exact h.1.symm
theorem slE_held {v:Value} {d:DataW Value} {ps:List MemPlace} (h:slE v=some (d,ps)):d=.held v:=by cases v <;> simp [slE] at h;exact h.1.symm
abbrev nlM:DataW Value:=.held (.map none)
abbrev nlS:DataW Value:=.held (.slice none 0 0)
theorem keyS:Keyed Tryz.prog 9:=string_keyed Tryz.underlying9
theorem keyI:Keyed Tryz.prog 3:=int_keyed Tryz.underlying3
theorem zero337 (w:World):(zeroValue 337).run Tryz.prog w=.ok (.map none) w:=by kernel_rfl
theorem zero55 (w:World):(zeroValue 55).run Tryz.prog w=.ok (.slice none 0 0) w:=by kernel_rfl
theorem zero63 (w:World):(zeroValue 63).run Tryz.prog w=.ok (.slice none 0 0) w:=by kernel_rfl
theorem klS {s:ByteArray} (h:s.size≤maxLen):keyOf Tryz.prog 9 (.string s)=some (.string s.data.toList):=WideMaps.keyOf_string_mk Tryz.underlying9 h
theorem klI {i:Int} (h:(Lit.int .i64 i).wf=true):keyOf Tryz.prog 3 (.int .i64 i)=some (.int .i64 i):=keyOf_int_mk Tryz.underlying3 h
theorem wpList_lookup_tok {P:Program} (w:World) {ops:Array Oper} {rest:List Oper} {o:Oper} {a:Act} {Q:Exit→Act→World→Prop} (hg:o.guard=none) (m x:Operand) (t:TypeId) (hop:o.op=Op.lookup t m x false)
  (k e:TypeId) (K:Keyed P k) (ht:P.underlying t=some (.map k e)) (R:Value→Option (DataW Value × List MemPlace)) (hR:∀ v d ps,R v=some (d,ps)→d=.held v) {z:Value} (hz:(zeroValue e).run P w=.ok z w) (zd:DataW Value) (zp:List MemPlace) (hzd:R z=some (zd,zp)) (b n:Nat) (D:DataW Value)
  (hm:a.eval m=.map (some b)) (hown:w.ownsMap P k R b n D) (key:Value) (kl:Lit) (hx:a.eval x=key) (hkey:keyOf P k key=some kl) (v0:Value) (hat:D.atKey kl zd=.held v0)
  (hK:wpList P ops Q rest (a.put o.dst v0) w) :
  wpList P ops Q (o :: rest) a w:=by
 refine wpList_plain hg fun K' hK'=>?_
 obtain ⟨v,ps,hrun,hv⟩:=hown.lookup K ht hz hzd hkey
 have hvv:=hR _ _ _ hv
 rw [hat] at hvv
 injection hvv with hvv
 subst hvv
 unfold Oper.wp
 simp [execOp,hop,hm,hx,hrun,Result.andThen]
 exact hK' _ _ hK
theorem wpList_lookup_tok_ok {P:Program} (w:World) {ops:Array Oper} {rest:List Oper} {o:Oper} {a:Act} {Q:Exit→Act→World→Prop} (hg:o.guard=none) (m x:Operand) (t:TypeId) (hop:o.op=Op.lookup t m x true)
  (k e:TypeId) (K:Keyed P k) (ht:P.underlying t=some (.map k e)) (R:Value→Option (DataW Value × List MemPlace)) (hR:∀ v d ps,R v=some (d,ps)→d=.held v) {z:Value} (hz:(zeroValue e).run P w=.ok z w) (zd:DataW Value) (zp:List MemPlace) (hzd:R z=some (zd,zp)) (b n:Nat) (D:DataW Value)
  (hm:a.eval m=.map (some b)) (hown:w.ownsMap P k R b n D) (key:Value) (kl:Lit) (hx:a.eval x=key) (hkey:keyOf P k key=some kl) (v0:Value) (hat:D.atKey kl zd=.held v0) (ok:Bool) (hok:Maps.has D kl=ok)
  (hK:wpList P ops Q rest (a.put o.dst (.tuple #[v0,.bool ok])) w) :
  wpList P ops Q (o :: rest) a w:=by
 refine wpList_plain hg fun K' hK'=>?_
 obtain ⟨v,ps,hrun,hv⟩:=hown.look_ok K ht hz hzd hkey
 have hvv:=hR _ _ _ hv
 rw [hat] at hvv
 injection hvv with hvv
 subst hvv
 rw [hok] at hrun
 unfold Oper.wp
 simp [execOp,hop,hm,hx,hrun,Result.andThen]
 exact hK' _ _ hK
theorem ownsMap_fun {w:World} {P:Program} {k:TypeId} {R:Value→Option (DataW Value × List MemPlace)} {b n n':Nat} {D D':DataW Value} (h:w.ownsMap P k R b n D) (h':w.ownsMap P k R b n' D'):D=D':=by
 obtain ⟨es,c,hb,_,_,rfl⟩:=h
 obtain ⟨es',c',hb',_,_,rfl⟩:=h'
 rw [hb] at hb'
 injection hb' with hb'
 injection hb' with e1 e2
 rw [e1]
def Ris:Int→List Int→Prop
 | _,[]=>True
 | lo,x :: r=>lo<x∧x≤1099511627775∧Ris x r
theorem Ris.len:∀ {lo:Int} {xs:List Int},Ris lo xs→lo≤1099511627775→(xs.length:Int)≤1099511627775 - lo
 | lo,[],_,h=>by simp;omega
 | lo,x :: r,h,hl=>by
  have:=Ris.len h.2.2 h.2.1
  have h1:=h.1
  simp only [List.length_cons]
  omega
theorem Ris.snoc {p:Int} (hp:p≤1099511627775):∀ {lo:Int} {xs:List Int},Ris lo xs→lo<p→(∀ x,xs.getLast?=some x→x<p)→Ris lo (xs++[p])
 | lo,[],_,h,_=>⟨h,hp,trivial⟩
 | lo,[x],h,h1,h2=>⟨h.1,h.2.1,h2 x rfl,hp,trivial⟩
 | lo,x :: y :: r,h,h1,h2=>by
  refine ⟨h.1,h.2.1,Ris.snoc hp h.2.2 (Int.lt_of_lt_of_le h.2.2.1 ?_) fun z hz=>h2 z (by simpa using hz)⟩
  have:=h2 ((y :: r).getLast (by simp)) (by rw [List.getLast?_cons_cons,List.getLast?_eq_some_getLast (by simp)])
  have hy:y≤(y :: r).getLast (by simp):=by
   clear h2 this h1
   have hr:Ris x (y :: r):=h.2.2
   clear h
   revert x
   induction r generalizing y with
   | nil=>intro x _;simp
   | cons z r ih =>
    intro x h
    have:=ih z y h.2.2
    rw [List.getLast_cons (by simp)]
    have h3:y<z:=h.2.2.1
    omega
  omega
def itv (xs:List Int):List Value:=xs.map (.int .i64)
structure Gs (B:Nat) (v:Value) (w:World):Prop where
 ex:∃ xs:List Int,w.ownsRow B 3 1 v xs.length (itv xs)∧Ris (-1) xs
theorem Gs.nil (B:Nat) (w:World):Gs B (.slice none 0 0) w:=⟨[],World.ownsRow_nil _ _ _ _,trivial⟩
theorem Gs.kept {B:Nat} {v:Value} {w w':World} {row:Option Nat} (h:Gs B v w) (hg:w.grownBy w' row) (hne:v.ownBlock=none∨v.ownBlock≠row):Gs B v w':=by
 obtain ⟨xs,h1,h2⟩:=h.ex
 exact ⟨xs,h1.kept hg hne,h2⟩
structure Gi (B:Nat) (X Y:Nat→Prop) (N:Nat) (DX DY:Nat→DataW Value) (w:World):Prop where
 x:∀ i,X i→B≤i∧∃ n,n≤N∧w.ownsMap Tryz.prog 9 mpE i n (DX i)
 xk:∀ i kl,X i→(∀ z,(DX i).atKey kl z=z)∨∃ y,(∀ z,(DX i).atKey kl z=.held (.map (some y)))∧Y y
 y:∀ i,Y i→B≤i∧∃ n,n≤N∧w.ownsMap Tryz.prog 3 slE i n (DY i)
 yk:∀ i kl,Y i→∃ v,(DY i).atKey kl nlS=.held v∧Gs B v w
 d:∀ i,X i→Y i→False
 u:∀ i j kl kl' v v' r,Y i→Y j→(DY i).atKey kl nlS=.held v→(DY j).atKey kl' nlS=.held v'→v.ownBlock=some r→v'.ownBlock=some r→i=j∧kl=kl'
structure Gl (B:Nat) (X Y:Nat→Prop) (N:Nat) (w:World):Prop where
 ex:∃ DX DY,Gi B X Y N DX DY w
structure Mv (B:Nat) (F X Y:Nat→Prop) (w w':World):Prop where
 os:w'.os=w.os
 tape:w'.tape=w.tape
 output:w'.output=w.output
 size:w.heap.size≤w'.heap.size
 block:∀ k,k<w.heap.size→¬ F k→¬ X k→¬ Y k→(B≤k→∀ c f,w.heap[k]?≠some (.cells c 3 f))→w'.heap[k]?=w.heap[k]?
theorem Mv.below {B:Nat} {F X Y:Nat→Prop} {w w':World} (h:Below w.heap.size w w'):Mv B F X Y w w':=⟨h.os,h.tape,h.output,h.size,fun k hk _ _ _ _=>h.block k hk⟩
theorem Mv.refl (B:Nat) (F X Y:Nat→Prop) (w:World):Mv B F X Y w w:=Mv.below (Below.refl _ _)
theorem Mv.trans {B:Nat} {F X Y F' X' Y':Nat→Prop} {a b c:World} (h:Mv B F X Y a b) (k:Mv B F' X' Y' b c) (hF:∀ i,F' i→F i∨a.heap.size≤i) (hX:∀ i,X' i→X i∨a.heap.size≤i) (hY:∀ i,Y' i→Y i∨a.heap.size≤i):Mv B F X Y a c :=
 ⟨k.os.trans h.os,k.tape.trans h.tape,k.output.trans h.output,Nat.le_trans h.size k.size,fun i hi h1 h2 h3 h4=>by
  have e:=h.block i hi h1 h2 h3 h4
  refine (k.block i (Nat.lt_of_lt_of_le hi h.size) (fun q=>?_) (fun q=>?_) (fun q=>?_) (fun hp c f q=>?_)).trans e
  ·rcases hF i q with q | q
   ·exact h1 q
   ·omega
  ·rcases hX i q with q | q
   ·exact h2 q
   ·omega
  ·rcases hY i q with q | q
   ·exact h3 q
   ·omega
  ·rw [e] at q
   exact h4 hp c f q⟩
theorem Mv.mono {B:Nat} {F X Y F' X' Y':Nat→Prop} {a b:World} (h:Mv B F X Y a b) (hF:∀ i,F i→F' i) (hX:∀ i,X i→X' i) (hY:∀ i,Y i→Y' i):Mv B F' X' Y' a b :=
 ⟨h.os,h.tape,h.output,h.size,fun k hk h1 h2 h3 h4=>h.block k hk (fun q=>h1 (hF k q)) (fun q=>h2 (hX k q)) (fun q=>h3 (hY k q)) h4⟩
theorem Mv.grown {B:Nat} {F X Y:Nat→Prop} {a b:World} {row:Option Nat} (h:a.grownBy b row) (hr:∀ i,row=some i→a.heap.size≤i∨F i∨X i∨Y i∨(B≤i∧∃ c f,a.heap[i]?=some (.cells c 3 f))):Mv B F X Y a b :=
 ⟨h.os,h.tape,h.output,h.size,fun k hk h1 h2 h3 h4=>h.block k hk fun e=>by
  rcases hr k e.symm with q | q | q | q | ⟨hp,c,f,q⟩
  ·omega
  ·exact h1 q
  ·exact h2 q
  ·exact h3 q
  ·exact h4 hp c f q⟩
theorem Mv.cells {B:Nat} {F X Y:Nat→Prop} {a b:World} (h:Mv B F X Y a b) {k:Nat} {c:Array Value} {t:TypeId} {f:Nat × Nat} (hk:a.heap[k]?=some (.cells c t f)) (ht:t≠3) (hF:¬ F k) (hX:¬ X k) (hY:¬ Y k):b.heap[k]?=some (.cells c t f) :=
 (h.block k (Array.getElem?_eq_some_iff.1 hk).1 hF hX hY (fun _ c' f' q=>by rw [hk] at q;injection q with q;injection q with _ q _;exact ht q)).trans hk
theorem Gi.below {B:Nat} {X Y:Nat→Prop} {N:Nat} {DX DY:Nat→DataW Value} {w w':World} (h:Gi B X Y N DX DY w) (hb:Below w.heap.size w w'):Gi B X Y N DX DY w':=by
 have hg:w.grownBy w' none:=⟨hb.os,hb.tape,hb.output,hb.size,fun k hk _=>hb.block k hk⟩
 exact ⟨fun i hi=>let ⟨p,n,h1,h2⟩:=h.x i hi;⟨p,n,h1,h2.kept hg (by simp)⟩,h.xk,fun i hi=>let ⟨p,n,h1,h2⟩:=h.y i hi;⟨p,n,h1,h2.kept hg (by simp)⟩,
  fun i kl hi=>let ⟨v,h1,h2⟩:=h.yk i kl hi;⟨v,h1,h2.kept hg (by cases v.ownBlock <;> simp)⟩,h.d,h.u⟩
theorem Gl.below {B:Nat} {X Y:Nat→Prop} {N:Nat} {w w':World} (h:Gl B X Y N w) (hb:Below w.heap.size w w'):Gl B X Y N w':=let ⟨DX,DY,k⟩:=h.ex;⟨DX,DY,k.below hb⟩
theorem Gi.mono {B:Nat} {X Y:Nat→Prop} {N N':Nat} {DX DY:Nat→DataW Value} {w:World} (h:Gi B X Y N DX DY w) (hN:N≤N'):Gi B X Y N' DX DY w :=
 ⟨fun i hi=>let ⟨p,n,h1,h2⟩:=h.x i hi;⟨p,n,by omega,h2⟩,h.xk,fun i hi=>let ⟨p,n,h1,h2⟩:=h.y i hi;⟨p,n,by omega,h2⟩,h.yk,h.d,h.u⟩
theorem Gl.mono {B:Nat} {X Y:Nat→Prop} {N N':Nat} {w:World} (h:Gl B X Y N w) (hN:N≤N'):Gl B X Y N' w:=let ⟨DX,DY,k⟩:=h.ex;⟨DX,DY,k.mono hN⟩
theorem map_ne_row {w:World} {P:Program} {k e:TypeId} {R:Value→Option (DataW Value × List MemPlace)} {b n base sz m:Nat} {D:DataW Value} {v:Value} {xs:List Value} (h:w.ownsMap P k R b n D) (hv:w.ownsRow base e sz v m xs):v.ownBlock≠some b:=by
 obtain ⟨es,c,hb,_⟩:=h
 rcases hv.2 with ⟨rfl,_⟩ | ⟨g,cap,cur,rfl,_,hh,_⟩
 ·simp [Value.ownBlock]
 ·intro q
  have:g=b:=by simpa [Value.ownBlock] using q
  subst this
  rw [hb] at hh
  cases hh
theorem Gi.set_y {B:Nat} {X Y:Nat→Prop} {N N':Nat} {DX DY:Nat→DataW Value} {w w1 w':World} {y n:Nat} {D':DataW Value} {kl0:Lit} {v v0:Value} (h:Gi B X Y N DX DY w) (hy:Y y) (hN:N≤N') (hv:(DY y).atKey kl0 nlS=.held v) (hg1:w.grownBy w1 v.ownBlock) (hg:w1.grownBy w' (some y)) (ho:w'.ownsMap Tryz.prog 3 slE y n D') (hn:n≤N')
  (hk:∀ kl,kl≠kl0→D'.atKey kl nlS=(DY y).atKey kl nlS) (hk0:D'.atKey kl0 nlS=.held v0) (hs:Gs B v0 w1) (hu:∀ r,v0.ownBlock=some r→v.ownBlock=some r∨w.heap.size≤r) :
  Gi B X Y N' DX (fun i=>if i=y then D' else DY i) w':=by
 obtain ⟨hy0,ny,_,hoy⟩:=h.y y hy
 obtain ⟨v1,hv1,hgs⟩:=h.yk y kl0 hy
 rw [hv] at hv1;injection hv1 with hv1;subst hv1
 obtain ⟨xs,hxs,_⟩:=hgs.ex
 have hoy1:=hoy.kept hg1 (Ne.symm (map_ne_row hoy hxs))
 have gs1:∀ u,Gs B u w1→Gs B u w':=fun u hu=>hu.kept hg (by
  obtain ⟨xs,h1,_⟩:=hu.ex
  exact .inr (map_ne_row hoy1 h1))
 have gs:∀ i kl u,Y i→(DY i).atKey kl nlS=.held u→(i≠y∨kl≠kl0)→Gs B u w':=fun i kl u hi hu' hne=>by
  obtain ⟨u2,e2,g2⟩:=h.yk i kl hi
  rw [hu'] at e2;injection e2 with e2;subst e2
  refine gs1 u (g2.kept hg1 ?_)
  cases hub:u.ownBlock with
  | none=>exact .inl rfl
  | some r =>
   right
   intro e
   have:=h.u i y kl kl0 u v r hi hy hu' hv hub e.symm
   rcases hne with q | q
   ·exact q this.1
   ·exact q this.2
 have lt:∀ i kl u r,Y i→(DY i).atKey kl nlS=.held u→u.ownBlock=some r→r<w.heap.size:=fun i kl u r hi hu' hr=>by
  obtain ⟨u2,e2,g2⟩:=h.yk i kl hi
  rw [hu'] at e2;injection e2 with e2;subst e2
  obtain ⟨zs,z1,_⟩:=g2.ex
  exact (z1.lt r hr).2
 have key:∀ j kl' v' r,Y j→(DY j).atKey kl' nlS=.held v'→v'.ownBlock=some r→v0.ownBlock=some r→j=y∧kl'=kl0:=fun j kl' v' r hj e' hr' hr=>by
  rcases hu r hr with q | q
  ·exact h.u j y kl' kl0 v' v r hj hy e' hv hr' q
  ·have:=lt j kl' v' r hj e' hr'
   omega
 refine ⟨fun i hi=>?_,h.xk,fun i hi=>?_,fun i kl hi=>?_,h.d,fun i j kl kl' u u' r hi hj e e' hr hr'=>?_⟩
 ·obtain ⟨p,m,h1,h2⟩:=h.x i hi
  refine ⟨p,m,by omega,(h2.kept hg1 (Ne.symm (map_ne_row h2 hxs))).kept hg ?_⟩
  intro q
  injection q with q
  subst q
  exact h.d i hi hy
 ·by_cases he:i=y
  ·subst he
   simp only [if_true]
   exact ⟨hy0,n,hn,ho⟩
  ·simp only [he,if_false]
   obtain ⟨p,m,h1,h2⟩:=h.y i hi
   exact ⟨p,m,by omega,(h2.kept hg1 (Ne.symm (map_ne_row h2 hxs))).kept hg (by simpa using he)⟩
 ·by_cases he:i=y
  ·subst he
   simp only [if_true]
   by_cases hkk:kl=kl0
   ·subst hkk
    exact ⟨v0,hk0,gs1 v0 hs⟩
   ·obtain ⟨u,u1,u2⟩:=h.yk i kl hi
    exact ⟨u,(hk kl hkk).trans u1,gs i kl u hi u1 (.inr hkk)⟩
  ·simp only [he,if_false]
   obtain ⟨u,h1,h2⟩:=h.yk i kl hi
   exact ⟨u,h1,gs i kl u hi h1 (.inl he)⟩
 ·by_cases hi0:i=y∧kl=kl0
  ·obtain ⟨rfl,rfl⟩:=hi0
   simp only [if_true] at e
   rw [hk0] at e;injection e with e;subst e
   by_cases hj0:j=i∧kl'=kl
   ·exact ⟨hj0.1.symm,hj0.2.symm⟩
   ·have e2:(DY j).atKey kl' nlS=.held u':=by
     by_cases hji:j=i
     ·subst hji
      simp only [if_true] at e'
      rw [← hk kl' (fun q=>hj0 ⟨rfl,q⟩)]
      exact e'
     ·simpa only [hji,if_false] using e'
    have:=key j kl' u' r hj e2 hr' hr
    exact ⟨this.1.symm,this.2.symm⟩
  ·have e1:(DY i).atKey kl nlS=.held u:=by
    by_cases hiy:i=y
    ·subst hiy
     simp only [if_true] at e
     rw [← hk kl (fun q=>hi0 ⟨rfl,q⟩)]
     exact e
    ·simpa only [hiy,if_false] using e
   by_cases hj0:j=y∧kl'=kl0
   ·obtain ⟨rfl,rfl⟩:=hj0
    simp only [if_true] at e'
    rw [hk0] at e';injection e' with e';subst e'
    exact key i kl u r hi e1 hr hr'
   ·have e2:(DY j).atKey kl' nlS=.held u':=by
     by_cases hji:j=y
     ·subst hji
      simp only [if_true] at e'
      rw [← hk kl' (fun q=>hj0 ⟨rfl,q⟩)]
      exact e'
     ·simpa only [hji,if_false] using e'
    exact h.u i j kl kl' u u' r hi hj e1 e2 hr hr'
theorem Gi.set_x {B:Nat} {X Y:Nat→Prop} {N N':Nat} {DX DY:Nat→DataW Value} {w w':World} {x n:Nat} {D':DataW Value} (h:Gi B X Y N DX DY w) (hx:X x) (hN:N≤N') (hg:w.grownBy w' (some x)) (ho:w'.ownsMap Tryz.prog 9 mpE x n D') (hn:n≤N')
  (hk:∀ kl,(∀ z,D'.atKey kl z=z)∨∃ y,(∀ z,D'.atKey kl z=.held (.map (some y)))∧Y y) :
  Gi B X Y N' (fun i=>if i=x then D' else DX i) DY w':=by
 obtain ⟨hx0,nx,_,hox⟩:=h.x x hx
 refine ⟨fun i hi=>?_,fun i kl hi=>?_,fun i hi=>?_,fun i kl hi=>?_,h.d,h.u⟩
 ·by_cases he:i=x
  ·subst he
   simp only [if_true]
   exact ⟨hx0,n,hn,ho⟩
  ·simp only [he,if_false]
   obtain ⟨p,m,h1,h2⟩:=h.x i hi
   exact ⟨p,m,by omega,h2.kept hg (by simpa using he)⟩
 ·by_cases he:i=x
  ·simp only [he,if_true]
   exact hk kl
  ·simp only [he,if_false]
   exact h.xk i kl hi
 ·obtain ⟨p,m,h1,h2⟩:=h.y i hi
  refine ⟨p,m,by omega,h2.kept hg ?_⟩
  intro q
  injection q with q
  subst q
  exact h.d i hx hi
 ·obtain ⟨v,h1,h2⟩:=h.yk i kl hi
  refine ⟨v,h1,h2.kept hg (.inr ?_)⟩
  obtain ⟨xs,h3,_⟩:=h2.ex
  exact map_ne_row hox h3
theorem Gi.new_y {B:Nat} {X Y:Nat→Prop} {N:Nat} {DX DY:Nat→DataW Value} {w w':World} {y:Nat} (h:Gi B X Y N DX DY w) (hb:Below w.heap.size w w') (hy:w.heap.size≤y) (hy0:B≤y) (ho:w'.ownsMap Tryz.prog 3 slE y 0 (.map [])) :
  Gi B X (fun i=>Y i∨i=y) N DX (fun i=>if i=y then .map [] else DY i) w':=by
 have h':=h.below hb
 have ny:∀ i,Y i→i≠y:=fun i hi e=>by
  obtain ⟨_,_,_,q⟩:=h.y i hi
  have:=q.lt
  omega
 have nil:∀ kl,(DataW.map []:DataW Value).atKey kl nlS=nlS:=fun kl=>rfl
 refine ⟨h'.x,fun i kl hi=>?_,fun i hi=>?_,fun i kl hi=>?_,fun i hi hj=>?_,fun i j kl kl' u u' r hi hj e e' hr hr'=>?_⟩
 ·rcases h'.xk i kl hi with q | ⟨z,q1,q2⟩
  ·exact .inl q
  ·exact .inr ⟨z,q1,.inl q2⟩
 ·by_cases he:i=y
  ·subst he
   simp only [if_true]
   exact ⟨hy0,0,Nat.zero_le _,ho⟩
  ·simp only [he,if_false]
   exact h'.y i (hi.resolve_right he)
 ·by_cases he:i=y
  ·subst he
   simp only [if_true]
   exact ⟨_,nil kl,Gs.nil _ _⟩
  ·simp only [he,if_false]
   exact h'.yk i kl (hi.resolve_right he)
 ·rcases hj with hj | hj
  ·exact h.d i hi hj
  ·subst hj
   obtain ⟨_,_,_,q⟩:=h.x i hi
   have:=q.lt
   omega
 ·by_cases hiy:i=y
  ·simp only [hiy,if_true] at e
   rw [nil] at e
   injection e with e
   subst e
   simp [Value.ownBlock] at hr
  ·by_cases hjy:j=y
   ·simp only [hjy,if_true] at e'
    rw [nil] at e'
    injection e' with e'
    subst e'
    simp [Value.ownBlock] at hr'
   ·simp only [hiy,hjy,if_false] at e e'
    exact h.u i j kl kl' u u' r (hi.resolve_right hiy) (hj.resolve_right hjy) e e' hr hr'
theorem Gi.far {B:Nat} {X Y:Nat→Prop} {N:Nat} {DX DY:Nat→DataW Value} {w w':World} {r:Nat} (h:Gi B X Y N DX DY w) (hg:w.grownBy w' (some r)) (hX:¬ X r) (hY:¬ Y r) (h3:∀ c f,w.heap[r]?≠some (.cells c 3 f)):Gi B X Y N DX DY w':=by
 refine ⟨fun i hi=>?_,h.xk,fun i hi=>?_,fun i kl hi=>?_,h.d,h.u⟩
 ·obtain ⟨p,m,h1,h2⟩:=h.x i hi
  exact ⟨p,m,h1,h2.kept hg (by simp;intro e;subst e;exact hX hi)⟩
 ·obtain ⟨p,m,h1,h2⟩:=h.y i hi
  exact ⟨p,m,h1,h2.kept hg (by simp;intro e;subst e;exact hY hi)⟩
 ·obtain ⟨v,h1,h2⟩:=h.yk i kl hi
  refine ⟨v,h1,h2.kept hg (.inr fun e=>?_)⟩
  obtain ⟨xs,h4,_⟩:=h2.ex
  rcases h4.2 with ⟨rfl,_⟩ | ⟨g,cap,cur,rfl,_,hh,_⟩
  ·simp [Value.ownBlock] at e
  ·have:g=r:=by simpa [Value.ownBlock] using e
   subst this
   exact h3 _ _ hh
theorem Gl.far {B:Nat} {X Y:Nat→Prop} {N:Nat} {w w':World} {r:Nat} (h:Gl B X Y N w) (hg:w.grownBy w' (some r)) (hX:¬ X r) (hY:¬ Y r) (h3:∀ c f,w.heap[r]?≠some (.cells c 3 f)):Gl B X Y N w':=let ⟨DX,DY,k⟩:=h.ex;⟨DX,DY,k.far hg hX hY h3⟩
theorem Mv.andThen {B:Nat} {F X Y:Nat→Prop} {a b c:World} {row:Option Nat} (h:Mv B F X Y a b) (k:b.grownBy c row) (hr:∀ i,row=some i→a.heap.size≤i∨F i∨X i∨Y i∨(B≤i∧∃ c f,b.heap[i]?=some (.cells c 3 f))):Mv B F X Y a c :=
 ⟨k.os.trans h.os,k.tape.trans h.tape,k.output.trans h.output,Nat.le_trans h.size k.size,fun i hi h1 h2 h3 h4=>by
  have e:=h.block i hi h1 h2 h3 h4
  refine (k.block i (Nat.lt_of_lt_of_le hi h.size) fun q=>?_).trans e
  rcases hr i q.symm with q | q | q | q | ⟨hp,c,f,q⟩
  ·omega
  ·exact h1 q
  ·exact h2 q
  ·exact h3 q
  ·rw [e] at q
   exact h4 hp c f q⟩
theorem Mv.andBelow {B:Nat} {F X Y:Nat→Prop} {a b c:World} (h:Mv B F X Y a b) (k:Below b.heap.size b c):Mv B F X Y a c:=h.trans (Mv.below (F:=F) (X:=X) (Y:=Y) k) (fun _ q=>.inl q) (fun _ q=>.inl q) (fun _ q=>.inl q)
theorem Gl.x_lt {B:Nat} {X Y:Nat→Prop} {N:Nat} {w:World} (h:Gl B X Y N w) {i:Nat} (hi:X i):i<w.heap.size:=by
 obtain ⟨DX,DY,k⟩:=h.ex
 obtain ⟨_,_,_,q⟩:=k.x i hi
 exact q.lt
theorem Gl.y_lt {B:Nat} {X Y:Nat→Prop} {N:Nat} {w:World} (h:Gl B X Y N w) {i:Nat} (hi:Y i):i<w.heap.size:=by
 obtain ⟨DX,DY,k⟩:=h.ex
 obtain ⟨_,_,_,q⟩:=k.y i hi
 exact q.lt
theorem Gl.x_map {B:Nat} {X Y:Nat→Prop} {N:Nat} {w:World} (h:Gl B X Y N w) {i:Nat} (hi:X i):B≤i∧∃ es c,w.heap[i]?=some (.map es c):=by
 obtain ⟨DX,DY,k⟩:=h.ex
 obtain ⟨p,_,_,es,c,q,_⟩:=k.x i hi
 exact ⟨p,es,c,q⟩
theorem Gl.y_map {B:Nat} {X Y:Nat→Prop} {N:Nat} {w:World} (h:Gl B X Y N w) {i:Nat} (hi:Y i):B≤i∧∃ es c,w.heap[i]?=some (.map es c):=by
 obtain ⟨DX,DY,k⟩:=h.ex
 obtain ⟨p,_,_,es,c,q,_⟩:=k.y i hi
 exact ⟨p,es,c,q⟩
end Go.Proofs.YtcmgclckknpecaaGreatDoor
