/- What snapPlays_proved stands on, part 2 of 10. -/
import Derived.Test.YtpnccmlajhhpdaaSP1
import Derived.MapKept
import Derived.RangeFuncRecord
import Derived.KernelRfl
import Derived.Laws.Externs
import Derived.Lib.UnsafeStr
import Derived.Lib.MakeNoZero
namespace Go.Proofs.Ytpnccmlajhhpdaa.Abs
noncomputable section
open Go.RowKit
section
variable {P:Program}{m:Map}{w0:Base}{w:World}{H H':AHeap}{nx:ANext}
theorem z125{t:TypeId}{d:TypeDesc}{v:Value}(hu:P.underlying t=some d)(hd:(∃q,d=.int q)∨d=.string∨d=.bool)(n:Nat)(w:World)(e:Bool):(Instr.checkKey e (n+1) t v).run P w=.ok () w:=by
 rcases hd with⟨q,rfl⟩|rfl|rfl<;>simp only[Instr.checkKey,Sem.run_bind,run_underlying hu,Result.andThen_ok]<;>rfl
theorem z273{s s':ByteArray}(h:(s == s')=true):s.data.toList=s'.data.toList:=by
 have:s.data == s'.data:=h;have:=eq_of_beq this;rw[this]
theorem key_desc{t:TypeId}{k:AV}{k':Value}(h:keyT P t k=true)(hk:Rel m k k')(hna:∀l,k≠ .agg l):∃d,P.underlying t=some d∧((∃q,d=.int q)∨d=.string∨d=.bool)∧(∀(w:World) (e:Bool),(Instr.checkKey e 10000 t k').run P w=.ok () w)∧
  ∀(x:AV) (x':Value) (b:Bool),Rel m x x'→z172 k x=some b→Instr.sameNow d k' x'=some b∧(b=true→∀n,Instr.sameBits n x' k'=true):=by
 unfold keyT at h
 split at h
 ·rename_i q hu
  split at h
  ·rename_i kk n
   have:=z6c hk;subst this;refine⟨_,hu,.inl ⟨q,rfl⟩,fun w e=>z125 hu (.inl ⟨q,rfl⟩) 9999 w e,fun x x' b hx hs=>?_⟩;unfold z172 at hs
   simp only at hs
   split at hs
   ·split at hs
    ·rename_i k2 n2 hkk
     subst hkk;have:=z6c hx;subst this;simp only[Option.some.injEq] at hs;subst hs;refine⟨by simp[Instr.sameNow],fun hb n=>?_⟩;have:n=n2∨True:=.inr trivial;simp only[beq_iff_eq] at hb;subst hb
     cases n<;>simp[Instr.sameBits]
    ·cases hs
   ·cases hs
  ·cases h
 ·rename_i hu
  split at h
  ·rename_i n v
   cases hk with|str s h1 h2=>
   refine⟨_,hu,.inr (.inl rfl),fun w e=>z125 hu (.inr (.inl rfl)) 9999 w e,fun x x' b hx hs=>?_⟩;unfold z172 at hs
   simp only at hs
   split at hs
   ·cases hx with | str s' h3 h4 =>
    simp only[Option.some.injEq] at hs;subst hs;rw[z29c h1 h2 h3 h4];refine⟨rfl,fun hb n=>?_⟩;have hl:=z273 hb
    have:s' == s:=by
     show (s'.data == s.data)=true;rw[beq_iff_eq];exact(Array.ext' hl).symm
    cases n<;>exact this
   ·cases hs
  ·cases h
 ·rename_i hu
  split at h
  ·have := zb1 hk; subst this
   refine⟨_,hu,.inr (.inr rfl),fun w e=>z125 hu (.inr (.inr rfl)) 9999 w e,fun x x' b hx hs=>?_⟩;unfold z172 at hs
   simp only at hs
   split at hs
   ·have := zb1 hx; subst this
    simp only[Option.some.injEq] at hs;subst hs;refine⟨rfl,fun hb n=>?_⟩;simp only[beq_iff_eq] at hb;subst hb
    cases n<;>simp[Instr.sameBits]
   ·cases hs
  ·cases h
 ·split at h
  ·exact absurd rfl (hna _)
  ·cases h
 ·cases h
theorem z3a2{k x:AV}{k' x':Value}(hk:Rel m k k')(hx:Rel m x x')(h:z172 k x=some true)(n:Nat):Instr.sameBits n x' k'=true:=by
 unfold z172 at h
 split at h
 ·split at h
  ·split at h
   ·rename_i hkk
    subst hkk;simp only[Option.some.injEq,beq_iff_eq] at h;subst h;rw[z6c hk,z6c hx]
    cases n<;>simp[Instr.sameBits]
   ·cases h
  ·cases h
 ·split at h
  ·cases hk with | str s h1 h2 => cases hx with | str s' h3 h4 =>
   simp only[Option.some.injEq] at h;rw[z29c h1 h2 h3 h4] at h;have hl:=z273 h
   have:s' == s:=by
    show (s'.data == s.data)=true;rw[beq_iff_eq];exact(Array.ext' hl).symm
   cases n<;>exact this
  ·cases h
 ·split at h
  ·simp only [Option.some.injEq, beq_iff_eq] at h
   subst h;rw[zb1 hk,zb1 hx]
   cases n<;>simp[Instr.sameBits]
  ·cases h
 ·cases h
theorem z225:∀(l x:List AV) (l' x':List Value),RelL m l l'→RelL m x x'→z1ca l x=true→∀(n:Nat),((x'.zip l').all fun (a,b)=>Instr.sameBits n a b)=true∧x'.length=l'.length
 |[],x,_,x',hl,hx,h,n=>by
  cases hl
  cases x with
  |nil=>cases hx;simp
  |cons a x=>simp[z1ca] at h
 |a::l,x,_,x',hl,hx,h,n=>by
  cases hl with|cons ha hl=>
  cases x with
  |nil=>simp[z1ca] at h
  |cons b x=>
   cases hx with|cons hb hx=>
   simp only[z1ca] at h
   split at h
   ·rename_i hs
    obtain⟨h1,h2⟩:=z225 l x _ _ hl hx h n
    simp[z3a2 ha hb hs n,h2]
    simpa using h1
   ·cases h
structure KeyOK (P:Program) (m:Map) (w:World) (kt:TypeId) (k:AV) (k':Value) where
 FK:List MapEntry→Nat→Option (Nat×Value)→Prop
 chk:∀(e:Bool),(Instr.checkKey e 10000 kt k').run P w=.ok () w
 nil:∀i,FK [] i none
 hit:∀(en:MapEntry) (es:List MapEntry) (i:Nat) (x:AV),Rel m x en.key→z173 P kt k x=some true→FK (en::es) i (some (i,en.val))
 miss:∀(en:MapEntry) (es:List MapEntry) (i:Nat) (x:AV) (r:Option (Nat×Value)),Rel m x en.key→z173 P kt k x=some false→FK es (i+1) r→FK (en::es) i r
 run:∀es r,FK es 0 r→(Instr.findKey kt k' es).run P w=.ok r w
 bits:∀(x:AV) (x':Value),Rel m x x'→z173 P kt k x=some true→Instr.sameBits 10000 x' k'=true
theorem key_plain{t:TypeId}{k:AV}{k':Value}(h:keyT P t k=true)(hk:Rel m k k')(hna:∀l,k≠ .agg l)(w:World):Nonempty (KeyOK P m w t k k'):=by
 have e:∀x,z173 P t k x=z172 k x:=fun x=>by
  unfold z173
  split
  ·exact absurd rfl (hna _)
  ·rfl
 have h2:∃d,P.underlying t=some d∧((∃q,d=.int q)∨d=.string∨d=.bool)∧(∀(w:World) (e:Bool),(Instr.checkKey e 10000 t k').run P w=.ok () w)∧
  ∀(x:AV) (x':Value) (b:Bool),Rel m x x'→z172 k x=some b→Instr.sameNow d k' x'=some b∧(b=true→∀n,Instr.sameBits n x' k'=true):=key_desc h hk hna
 obtain⟨d,hd,_,hck,hs⟩:=h2;refine⟨{FK:=fun es i r=>Instr.findNow d k' es i=some r,chk:=hck w,nil:=fun i=>rfl,hit:=fun en es i x hx hb=>?_,miss:=fun en es i x r hx hb hr=>?_,run:=fun es r hr=>?_,bits:=fun x x' hx hb=>?_}⟩
 ·rw [e] at hb
  simp[Instr.findNow,(hs _ _ _ hx hb).1]
 ·rw [e] at hb
  simp only[Instr.findNow,(hs _ _ _ hx hb).1];exact hr
 ·simp[Instr.findKey,run_underlying hd,hr]
 ·rw [e] at hb
  exact(hs _ _ _ hx hb).2 rfl _
theorem z41a{l:List AV}{l':List Value}(hl:RelL m l l')(e:Bool)(n:Nat)(w:World){f:Field}{fs:List Field}(h:z47b P l (f::fs)=true):
  f.name≠ "_" ∧(∃x',(part f.type ⟨l'⟩ f.offset).run P w=.ok x' w∧(Instr.checkKey e (n+1) f.type x').run P w=.ok () w)∧z47b P l fs=true:=by
 simp only[z47b,Bool.and_eq_true,bne_iff_ne,ne_eq] at h;obtain⟨⟨⟨h1,h2⟩,h3⟩,h4⟩:=h;obtain⟨x,hx⟩:=Option.isSome_iff_exists.1 h3;obtain⟨x',hp,_⟩:=z1f7 hl hx w;refine⟨h1,⟨x',hp,?_⟩,h4⟩;unfold plainKT at h2
 split at h2
 ·rename_i hu;exact z125 hu (.inl ⟨_,rfl⟩) n w e
 ·rename_i hu;exact z125 hu (.inr (.inl rfl)) n w e
 ·rename_i hu;exact z125 hu (.inr (.inr rfl)) n w e
 ·cases h2
theorem z47a{t:TypeId}{l:List AV}{k':Value}{fs:Array Field}(hu:P.underlying t=some (.struct fs))(hf:z47b P l fs.toList=true)(hk:Rel m (.agg l) k')(w:World):Nonempty (KeyOK P m w t (.agg l) k'):=by
 have heq:∀(x:AV) (x':Value) (b:Bool),Rel m x x'→z173 P t (.agg l) x=some b→(Op.equal t k' x').run P w=.ok b w∧(b=true→Instr.sameBits 10000 x' k'=true):=by
  intro x x' b hx hs;unfold z173 at hs
  simp only at hs
  split at hs
  ·rename_i q
   split at hs
   ·rename_i he
    split at hs
    ·rename_i hc
     simp only[Option.some.injEq] at hs;subst hs;refine⟨z26e 64 t _ _ _ _ _ he hk hx Op.maxDepth w (by decide),fun _=>?_⟩;cases hk with|agg hk=>cases hx with|agg hx=>
     obtain⟨h1,h2⟩:=z225 _ _ _ _ hk hx hc 9999;simp only[Instr.sameBits,Bool.and_eq_true,beq_iff_eq];exact⟨by simpa using h2,by simpa using h1⟩
    ·cases hs
   ·rename_i r he
    refine⟨z26e 64 t _ _ _ _ _ hs hk hx Op.maxDepth w (by decide),fun hb=>?_⟩;subst hb;exact absurd hs he
  ·cases hs
 cases hk with| @agg _ l' hl=>
 refine⟨{FK:=fun es i r=>(Instr.findAsking t (.agg ⟨l'⟩) es i).run P w=.ok r w,chk:=fun e=>?_,nil:=fun i=>by simp[Instr.findAsking],hit:=fun en es i x hx hb=>?_,miss:=fun en es i x r hx hb hr=>?_,run:=fun es r hr=>?_,bits:=fun x x' hx hb=>(heq x x' true hx hb).2 rfl}⟩
 ·rw [show (10000 : Nat) = 9998 + 1 + 1 from rfl, Instr.checkKey]
  simp only[Sem.run_bind,run_underlying hu,Result.andThen_ok];rw[←Array.forIn_toList];clear hu heq
  generalize fs.toList=L at hf
  induction L with
  |nil=>simp
  |cons f L ih=>
   obtain⟨hn,⟨x',p1,p2⟩,h4⟩:=z41a hl e 9998 w hf;simp only[List.forIn_cons,Sem.run_bind,hn,ne_eq,not_false_eq_true,if_true,Result.andThen_ok,p1,p2,Sem.run_pure];exact ih h4
 ·simp[Instr.findAsking,(heq x _ _ hx hb).1]
 ·simp [Instr.findAsking, (heq x _ _ hx hb).1]
  exact hr
 ·cases es with
  |nil=>
   simp[Instr.findAsking] at hr
   subst hr
   simp[Instr.findKey,run_underlying hu,Instr.findNow]
  |cons en es=>
   have:Instr.findNow (.struct fs) (.agg ⟨l'⟩) (en::es) 0=none:=by simp[Instr.findNow,Instr.sameNow]
   simp only[Instr.findKey,Sem.run_bind,run_underlying hu,Result.andThen_ok,this];exact hr
theorem key_ok{t:TypeId}{k:AV}{k':Value}(h:keyT P t k=true)(hk:Rel m k k')(w:World):Nonempty (KeyOK P m w t k k'):=by
 by_cases hna:∀l,k≠ .agg l
 ·exact key_plain h hk hna w
 ·have : ∃ l, k = .agg l := by
   apply Classical.byContradiction;intro hc;exact hna fun l e=>hc ⟨l,e⟩
  obtain⟨l,rfl⟩:=this;unfold keyT at h
  split at h
  ·cases h
  ·cases h
  ·cases h
  ·rename_i fs hu
   exact z47a hu h hk w
  ·cases h
theorem z365{kt:TypeId}{k:AV}{k':Value}(K:KeyOK P m w kt k k'):∀(es:List (AV×AV)) (es':List MapEntry) (r:Option AV) (i:Nat),RelM m es es'→z484 P kt k es=some r→
  ∃r',K.FK es' i r'∧((r=none∧r'=none)∨∃v v' j,r=some v∧r'=some (j,v')∧Rel m v v')
 |[],_,r,i,he,h=>by
  cases he;simp only[z484,Option.some.injEq] at h;subst h;exact⟨none,K.nil i,.inl ⟨rfl,rfl⟩⟩
 |(x,v)::es,_,r,i,he,h=>by
  cases he with|cons hk hv he=>
  simp only[z484] at h
  split at h
  ·rename_i hb
   simp only[Option.some.injEq] at h;subst h;exact⟨some (i,_),K.hit _ _ i x hk hb,.inr ⟨v,_,i,rfl,rfl,hv⟩⟩
  ·rename_i hb
   obtain⟨r',h1,h2⟩:=z365 K es _ r (i+1) he h;exact⟨r',K.miss _ _ i x r' hk hb h1,h2⟩
  ·cases h
theorem z2b8(F:Fits w0 m H w){x:AV}{x':Value}{es:List (AV×AV)}(hx:Rel m x x')(h:z223 H x=some es):(x'=.map none∧es=[])∨∃b g es' clock,x=.mp b∧x'=.map (some g)∧m[b]? =some (some (g,0,0))∧H.get b=some (.map es)∧w.heap[g]? =some (.map es' clock)∧RelM m es es'.toList:=by
 unfold z223 at h
 split at h
 ·simp only [Option.some.injEq] at h; subst h
  cases hx;exact .inl ⟨rfl,rfl⟩
 ·rename_i b
  split at h
  ·rename_i es' hb
   simp only[Option.some.injEq] at h;subst h;cases hx with| @mp _ g hm=>
   obtain⟨_,_,_,es2,clock,hheap,hrel⟩:=F.map b es' _ _ _ hb hm;exact .inr ⟨b,g,es2,clock,rfl,rfl,hm,hb,hheap,hrel⟩
  ·cases h
 ·cases h
def z140(kt et:TypeId)(y':Value)(ok:Bool)(es:Array MapEntry):Sem Value:=do
 Instr.checkKey es.isEmpty 10000 kt y'
 let (v,ok') ←match ←Instr.findKey kt y' es.toList with
  |some (_,v)=>pure (v,true)
  |none=>pure (←zeroValue et,false)
 pure (if ok then .tuple #[v,.bool ok'] else v)
theorem z4a0{kt et:TypeId}{ok:Bool}{k:AV}{y':Value}{es:List (AV×AV)}{es':Array MapEntry}(hkt:keyT P kt k=true)(hyk:Rel m k y')(hrel:RelM m es es'.toList)(h:z1fc P H et ok (z484 P kt k es)=some (nx,H')):PureOK m w H nx H' ((z140 kt et y' ok es').run P w):=by
 obtain⟨K⟩:=key_ok (m:=m) hkt hyk w;have hck:=K.chk;unfold z1fc at h
 split at h
 ·rename_i v hf
  obtain⟨r',h1,h2⟩:=z365 K es es'.toList (some v) 0 hrel hf
  rcases h2 with⟨h2,_⟩|⟨v1,v',j,h2,rfl,hv⟩
  ·cases h2
  ·cases h2
   have hfk:(Instr.findKey kt y' es'.toList).run P w=.ok (some (j,v')) w:=K.run _ _ h1
   cases ok
   ·refine z37 (v' := v') h ?_ hv
    simp only[z140,Sem.run_bind,Result.andThen_ok,hck _,hfk,Sem.run_pure];rfl
   ·refine z37 (v' := .tuple #[v', .bool true]) h ?_ (.tup (.cons hv (.cons (.bool true) .nil)))
    simp only[z140,Sem.run_bind,Result.andThen_ok,hck _,hfk,Sem.run_pure];rfl
 ·rename_i hf
  obtain⟨r',h1,h2⟩:=z365 K es es'.toList none 0 hrel hf
  rcases h2 with⟨_,rfl⟩|⟨v1,v',j,h2,_,hv⟩
  ·split at h
   ·rename_i z hz
    obtain⟨i,zv,hi,hzv,hrz,_,_⟩:=z1e9 m hz;have hzr:(zeroValue et).run P w=.ok zv w:=by simp[zeroValue,typeInfo,hi,hzv]
    have hfk:(Instr.findKey kt y' es'.toList).run P w=.ok none w:=K.run _ _ h1
    cases ok
    ·refine z37 (v' := zv) h ?_ hrz
     simp only[z140,Sem.run_bind,Result.andThen_ok,hck _,hfk,Sem.run_pure,hzr];rfl
    ·refine z37 (v' := .tuple #[zv, .bool false]) h ?_ (.tup (.cons hrz (.cons (.bool false) .nil)))
     simp only[z140,Sem.run_bind,Result.andThen_ok,hck _,hfk,Sem.run_pure,hzr];rfl
   ·cases h
  ·cases h2
 ·cases h
theorem lookup_ok(F:Fits w0 m H w){t:TypeId}{ok:Bool}{x y:Option AV}{x' y':Value}(hx:∀v,x=some v→Rel m v x')(hy:∀v,y=some v→Rel m v y')(h:z194 P H t ok x y=some (nx,H')):PureOK m w H nx H' ((Instr.lookup t x' y' ok).run P w):=by
 unfold z194 at h
 split at h
 ·rename_i a k
  have hxa:=hx _ rfl;have hyk:=hy _ rfl
  split at h
  ·rename_i kt et hu
   split at h
   ·rename_i hkt
    split at h
    ·rename_i es hes
     rcases z2b8 F hxa hes with⟨rfl,rfl⟩|⟨b,g,es',clock,rfl,rfl,hm,hb,hheap,hrel⟩
     ·have := z4a0 (w := w) (es' := #[]) hkt hyk .nil h
      have e:(Instr.lookup t (.map none) y' ok).run P w=(z140 kt et y' ok #[]).run P w:=by
       simp only[Instr.lookup,z140,Sem.run_bind,run_underlying hu,Result.andThen_ok,Sem.run_pure];rfl
      rw[e];exact this
     ·have := z4a0 (w := w) (es' := es') hkt hyk hrel h
      have e:(Instr.lookup t (.map (some g)) y' ok).run P w=(z140 kt et y' ok es').run P w:=by
       simp only[Instr.lookup,z140,Sem.run_bind,run_underlying hu,Result.andThen_ok,zd2 (P:=P) hheap,Sem.run_pure];rfl
      rw[e];exact this
    ·cases h
   ·cases h
  ·cases h
 ·cases h
theorem z12a{g clock:Nat}{es:Array MapEntry}(o':Obj)(h:w.heap[g]? =some (.map es clock)):(setObj g o').run P w=.ok () (w.putObj g o'):=by
 simp[setObj,Sem.run,h,World.putObj]
theorem z3de{B g:Nat}{o:Obj}(hg:B≤g){a:World}(h:Below B a w):Below B a (w.putObj g o):=
 h.trans ⟨rfl,rfl,rfl,by simp[World.putObj],fun k hk=>World.putObj_heap_other (by omega)⟩
theorem z199(F:Fits w0 m H w){b g clock clock':Nat}{es es2:List (AV×AV)}{es' es2':Array MapEntry}(hm:m[b]? =some (some (g,0,0)))(hb:H.get b=some (.map es))(hheap:w.heap[g]? =some (.map es' clock))(hrel:RelM m es2 es2'.toList):
  Fits w0 m (H.put b (.map es2)) (w.putObj g (.map es2' clock')):=by
 obtain⟨_,_,hB,_⟩:=F.map b es g 0 0 hb hm
 exact F.put hb rfl rfl hm (z3de hB F.below) (fun k hk _=>World.putObj_heap_other hk) (fun n t e he=>by cases he) (fun es3 he=>by
  cases he;exact⟨rfl,rfl,hB,es2',clock',World.putObj_heap_same (zc1 hheap),hrel⟩) (fun n t e he=>by cases he)
theorem putM_ok{kt:TypeId}{k v:AV}{k' v':Value}(K:KeyOK P m w kt k k')(hk':Rel m k k')(hv':Rel m v v'):∀(es r:List (AV×AV)) (es':List MapEntry) (i clock:Nat),RelM m es es'→putM P kt k v es=some r→
  (K.FK es' i none∧RelM m r (es'++[{key:=k',val:=v',born:=clock}]))∨
  ∃j u en,K.FK es' i (some (i+j,u))∧es'[j]? =some en∧Instr.sameBits 10000 en.key k'=true∧RelM m r (es'.modify j fun e=>{e with key:=k',val:=v'})
 |[],r,_,i,clock,he,h=>by
  cases he;simp only[putM,Option.some.injEq] at h;subst h;exact .inl ⟨K.nil i,.cons hk' hv' .nil⟩
 |(x,u)::es,r,_,i,clock,he,h=>by
  cases he with| @cons _ _ en _ l' hk hv he=>
  simp only[putM] at h
  split at h
  ·rename_i hb
   simp only[Option.some.injEq] at h;subst h;refine .inr ⟨0,en.val,en,?_,rfl,K.bits _ _ hk hb,?_⟩
   ·exact K.hit _ _ i x hk hb
   ·simpa using RelM.cons hk' hv' he
  ·rename_i hb
   split at h
   ·rename_i r' hr'
    simp only[Option.some.injEq] at h;subst h
    rcases putM_ok K hk' hv' es r' l' (i+1) clock he hr' with⟨h1,h2⟩|⟨j,u',en',h1,h2,h3,h4⟩
    ·exact .inl ⟨K.miss _ _ i x _ hk hb h1,.cons hk hv h2⟩
    ·refine .inr ⟨j + 1, u', en', ?_, by simpa using h2, h3, ?_⟩
     ·have := K.miss _ _ i x _ hk hb h1
      rwa [show i+1+j=i+(j+1) by omega] at this
     ·simpa using RelM.cons hk hv h4
   ·cases h
  ·cases h
theorem z26b(F:Fits w0 m H w){t:TypeId}{a x y:Option AV}{a' x' y':Value}(ha:∀v,a=some v→Rel m v a')(hx:∀v,x=some v→Rel m v x')(hy:∀v,y=some v→Rel m v y')(h:z193 P H t a x y=some (nx,H')):
  ∃w',nx=.skip∧Fits w0 m H' w'∧(Instr.mapUpdate t a' x' y').run P w=.ok () w':=by
 unfold z193 at h
 split at h
 ·rename_i b k v
  have hra:=ha _ rfl;have hrk:=hx _ rfl;have hrv:=hy _ rfl
  split at h
  ·rename_i kt et hu
   split at h
   ·rename_i hkt
    obtain⟨K⟩:=key_ok (m:=m) hkt hrk w;have hck:=K.chk
    split at h
    ·rename_i es hes
     unfold mapPut at h
     split at h
     ·rename_i es2 hput
      simp only[Option.some.injEq,Prod.mk.injEq] at h;obtain⟨rfl,rfl⟩:=h
      rcases z2b8 F hra hes with⟨e,_⟩|⟨b',g,es',clock,eb,rfl,hm,hb,hheap,hrel⟩
      ·cases hra;cases e
      ·cases eb
       have hgo:=zd2 (P:=P) hheap
       rcases putM_ok K hrk hrv es es2 es'.toList 0 clock hrel hput with⟨h1,h2⟩|⟨j,u,en,h1,h2,h3,h4⟩
       ·have hfk : (Instr.findKey kt x' es'.toList).run P w = .ok none w := K.run _ _ h1
        refine⟨w.putObj g (.map (es'.push {key:=x',val:=y',born:=clock}) (clock+1)),rfl,z199 F hm hb hheap (by simpa using h2),?_⟩;simp only[Instr.mapUpdate,Sem.run_bind,run_underlying hu,Result.andThen_ok,hgo,hck _,hfk];exact z12a _ hheap
       ·have hfk : (Instr.findKey kt x' es'.toList).run P w = .ok (some (j, u)) w := by
         have:=K.run _ _ h1;rwa [Nat.zero_add] at this
        have hen:es'[j]? =some en:=by simpa using h2
        have hks:(Instr.keyThatStays (((es'[j]?).map (·.key)).getD x') x').run P w=.ok x' w:=by
         simp[hen,Instr.keyThatStays,h3]
        refine⟨w.putObj g (.map (es'.modify j fun e=>{e with key:=x',val:=y'}) clock),rfl,z199 F hm hb hheap (by simpa using h4),?_⟩;simp only[Instr.mapUpdate,Sem.run_bind,run_underlying hu,Result.andThen_ok,hgo,hck _,hfk,hks];exact z12a _ hheap
     ·cases h
    ·cases h
   ·cases h
  ·cases h
 ·cases h
theorem delM_ok{kt:TypeId}{k:AV}{k':Value}(K:KeyOK P m w kt k k'):∀(es r:List (AV×AV)) (es':List MapEntry) (i:Nat),RelM m es es'→delM P kt k es=some r→
  (K.FK es' i none∧RelM m r es')∨∃j u,K.FK es' i (some (i+j,u))∧RelM m r (es'.eraseIdx j)
 |[],r,_,i,he,h=>by
  cases he;simp only[delM,Option.some.injEq] at h;subst h;exact .inl ⟨K.nil i,.nil⟩
 |(x,u)::es,r,_,i,he,h=>by
  cases he with| @cons _ _ en _ l' hk hv he=>
  simp only[delM] at h
  split at h
  ·rename_i hb
   simp only[Option.some.injEq] at h;subst h;exact .inr ⟨0,en.val,K.hit _ _ i x hk hb,by simpa using he⟩
  ·rename_i hb
   split at h
   ·rename_i r' hr'
    simp only[Option.some.injEq] at h;subst h
    rcases delM_ok K es r' l' (i+1) he hr' with⟨h1,h2⟩|⟨j,u',h1,h4⟩
    ·exact .inl ⟨K.miss _ _ i x _ hk hb h1,.cons hk hv h2⟩
    ·refine .inr ⟨j + 1, u', ?_, ?_⟩
     ·have := K.miss _ _ i x _ hk hb h1
      rwa [show i+1+j=i+(j+1) by omega] at this
     ·simpa using RelM.cons hk hv h4
   ·cases h
  ·cases h
theorem delete_ok(F:Fits w0 m H w){t:TypeId}{a x:AV}{a' x':Value}(hra:Rel m a a')(hrk:Rel m x x')(ts:Array TypeId)(ty:TypeId)(h0:ts[0]? =some t)(h:z354 P H t a x=some (nx,H')):
  ValPost w0 m H' nx ((Builtin.delete_ ts ty #[a',x']).run P w):=by
 unfold z354 at h
 split at h
 ·rename_i b kt et hu
  split at h
  ·rename_i hkt
   obtain⟨K⟩:=key_ok (m:=m) hkt hrk w;have hck:=K.chk
   split at h
   ·rename_i es hes
    split at h
    ·rename_i es2 hdel
     simp only[Option.some.injEq,Prod.mk.injEq] at h;obtain⟨rfl,rfl⟩:=h
     rcases z2b8 F hra hes with⟨e,_⟩|⟨b',g,es',clock,eb,rfl,hm,hb,hheap,hrel⟩
     ·cases hra;cases e
     ·cases eb
      have hgo:=zd2 (P:=P) hheap
      rcases delM_ok K es es2 es'.toList 0 hrel hdel with⟨h1,h2⟩|⟨j,u,h1,h4⟩
      ·have hfk : (Instr.findKey kt x' es'.toList).run P w = .ok none w := K.run _ _ h1
       refine⟨m,w.putObj g (.map es' clock),_,.tuple #[],Ext.refl m,z199 F hm hb hheap h2,rfl,?_,.tup .nil⟩
       simp[Builtin.delete_,h0,run_underlying hu,hgo,hck _,hfk,z12a (P:=P) _ hheap]
      ·have hfk : (Instr.findKey kt x' es'.toList).run P w = .ok (some (j, u)) w := by
         have:=K.run _ _ h1;rwa [Nat.zero_add] at this
       refine⟨m,w.putObj g (.map (es'.eraseIdxIfInBounds j) clock),_,.tuple #[],Ext.refl m,z199 F hm hb hheap (by
        have:(es'.eraseIdxIfInBounds j).toList=es'.toList.eraseIdx j:=by
         unfold Array.eraseIdxIfInBounds
         split
         ·simp
         ·rw[List.eraseIdx_of_length_le (by simp;omega)]
        rw[this];exact h4),rfl,?_,.tup .nil⟩
       simp[Builtin.delete_,h0,run_underlying hu,hgo,hck _,hfk,z12a (P:=P) _ hheap]
    ·cases h
   ·cases h
  ·cases h
 ·cases h
theorem z479(F:Fits w0 m H w){t:TypeId}{r:Option Operand}{ρ':Operand→Value}(h:z2af H r=some (nx,H')):ValPost w0 m H' nx ((Instr.makeMap t (r.map ρ')).run P w):=by
 unfold z2af at h
 split at h
 ·simp only [Option.some.injEq, Prod.mk.injEq] at h
  obtain⟨rfl,rfl⟩:=h;have Fa:=F.alloc (.map #[] 0);refine⟨_,w.alloc (.map #[] 0),_,.map (some w.heap.size),Ext.append m _,Fa.new (.map []) (g:=w.heap.size) (s:=0) (z:=0) (fun b o' s' z' h1 h2 h3=>?_) (fun n t e he=>by cases he) (fun es he=>?_) (fun n t e he=>by cases he) (hpin:=fun k o' hk _=>by have:=zc1 (F.pin k o' hk).1;omega),rfl,?_,?_⟩
  ·have:=F.mapped_lt h1 h2 h3;omega
  ·cases he
   exact⟨rfl,rfl,F.size, #[],0,heap_alloc_new w _,.nil⟩
  ·simp[Instr.makeMap]
  ·exact .mp (z162 F _)
 ·cases h
theorem clear_ok(F:Fits w0 m H w){t:TypeId}{x:AV}{x':Value}(hx:Rel m x x')(ts:Array TypeId)(ty:TypeId)(h0:ts[0]? =some t)(h:z3fa P H t x=some (nx,H')):
  ValPost w0 m H' nx ((Builtin.clear_ ts ty #[x']).run P w):=by
 unfold z3fa at h
 split at h
 ·rename_i e he
  have hu:=za5 he
  split at h
  ·cases hx
   exact PureOK.post F (z37 (v':=.tuple #[]) h (by simp[Builtin.clear_,h0,run_underlying hu]) (.tup .nil))
  ·cases hx
   exact PureOK.post F (z37 (v':=.tuple #[]) h (by simp[Builtin.clear_,h0,run_underlying hu]) (.tup .nil))
  ·rename_i b o n sz
   split at h
   ·rename_i z hz
    split at h
    ·rename_i hsz
     split at h
     ·rename_i H1 hput
      simp only[Option.some.injEq,Prod.mk.injEq] at h;obtain⟨rfl,rfl⟩:=h;obtain⟨i,zv,hi,hzv,hrel,hl,hl'⟩:=z1e9 m hz;cases hx with| @sl _ _ _ _ cap g s0 z0 hm hcap hzz=>
      obtain⟨F',hth,hone⟩:=z2a4 F hm (hrel.cells.reps n) hput;refine⟨m,_,_,.tuple #[],Ext.refl m,F',rfl,?_,.tup .nil⟩;have hst:=run_storeCells_cells (P:=P) g (s0+o) (List.replicate n zv.cells.toList).flatten 0 w (fun j hj=>by simpa using (hth j hj).1) (fun j hj=>by simpa using (hth j hj).2) hone;simp only[Nat.add_zero] at hst;have hzc:(zeroValue e).run P w=.ok zv w:=by simp[zeroValue,typeInfo,hi,hzv]
      cases n with
      |zero=>
       simp[Builtin.clear_,h0,run_underlying hu,World.setCells]
      |succ n=>
       have hcells:(Builtin.zeroCells zv.cells (n+1)).toList=(List.replicate (n+1) zv.cells.toList).flatten:=by
        by_cases hz0:zv.cells.size=0
        ·have e0 : zv.cells.toList = [] := List.eq_nil_of_length_eq_zero (by simpa using hz0)
         rw[e0];have:(Builtin.zeroCells zv.cells (n+1)).size=0:=by rw[size_zeroCells,hz0];simp
         have e1:(Builtin.zeroCells zv.cells (n+1)).toList=[]:=List.eq_nil_of_length_eq_zero (by simpa using this);rw[e1]
         simp
        ·have e1 := z24e zv.cells.toList (n + 1) (by simp; omega)
         have e2:zv.cells.toList.toArray=zv.cells:=by simp
         rw[e2] at e1;rw[←e1]
         simp[Builtin.zeroCells]
       simp[Builtin.clear_,h0,run_underlying hu,hzc,hcells,hst]
     ·cases h
    ·cases h
   ·cases h
  ·cases h
 ·cases h
end
end
noncomputable section
open Go.RowKit
theorem z3c5:(Extern.allGenericRows.lookup (Extern.AbiNoEscape.rows.headD default).1)=none:=by kernel_rfl
theorem z2ea:Extern.allTypedRows.lookup (Extern.AbiNoEscape.rows.headD default).1=none:=by kernel_rfl
theorem z3e1:Extern.allRows.lookup (Extern.AbiNoEscape.rows.headD default).1=some Extern.AbiNoEscape.same:=by kernel_rfl
theorem z364{fn:Func}(h:isRow Extern.AbiNoEscape.rows 0 fn.name=true):Extern.find fn=some Extern.AbiNoEscape.same:=by
 have e:fn.name=(Extern.AbiNoEscape.rows.headD default).1:=by
  unfold isRow at h
  split at h
  ·rename_i n r hr
   have h:=eq_of_beq h;rw[←h]
   simp[Extern.AbiNoEscape.rows] at hr ⊢
   exact hr.1.symm
  ·cases h
 unfold Extern.find;simp only[e,z3c5,z2ea,z3e1,Option.map_none];rfl
theorem z35d:(Extern.allGenericRows.lookup (Extern.BytealgIndexByte.rows.getD 1 default).1)=none:=by kernel_rfl
theorem z296:Extern.allTypedRows.lookup (Extern.BytealgIndexByte.rows.getD 1 default).1=none:=by kernel_rfl
theorem z373:Extern.allRows.lookup (Extern.BytealgIndexByte.rows.getD 1 default).1=some Extern.BytealgIndexByte.indexByte:=by kernel_rfl
theorem z2f9{fn:Func}(h:isRow Extern.BytealgIndexByte.rows 1 fn.name=true):Extern.find fn=some Extern.BytealgIndexByte.indexByte:=by
 have e:fn.name=(Extern.BytealgIndexByte.rows.getD 1 default).1:=by
  unfold isRow at h
  split at h
  ·rename_i n r hr
   have h:=eq_of_beq h;rw[←h]
   simp[Extern.BytealgIndexByte.rows] at hr ⊢
   exact hr.1.symm
  ·cases h
 unfold Extern.find;simp only[e,z35d,z296,z373,Option.map_none];rfl
theorem z2f4:(Extern.allGenericRows.lookup (Extern.BytealgMakeNoZero.typedRows.headD default).1)=none:=by kernel_rfl
theorem z27f:Extern.allTypedRows.lookup (Extern.BytealgMakeNoZero.typedRows.headD default).1=some Extern.BytealgMakeNoZero.makeNoZero:=by kernel_rfl
theorem z2c3{fn:Func}(h:z1ba fn.name=true):Extern.find fn=some (Extern.BytealgMakeNoZero.makeNoZero fn.params fn.resultTypes):=by
 have e:fn.name=(Extern.BytealgMakeNoZero.typedRows.headD default).1:=by
  have h:(_ == fn.name)=true:=h;exact(eq_of_beq h).symm
 unfold Extern.find;simp only[e,z2f4,z27f,Option.map_none,Option.map_some];rfl
theorem z257{α:Type}{p q:α→Bool}:∀(l:List α),(∀x∈l,p x=q x)→l.find? p=l.find? q
 |[],_=>rfl
 |x::l,h=>by
  rw[List.find?_cons,List.find?_cons,h x (by simp),z257 l (fun y hy=>h y (by simp[hy]))]
theorem z2c4(c:Nat)(hc:c<256):∀(l:List UInt8) (i:Nat),z1ce c l.length (enc l) i=((List.range' i l.length).find? fun j=>l[j - i]! == c.toUInt8)
 |[],i=>by simp[z1ce]
 |b::l,i=>by
  have hb:b.toNat<256:=b.toNat_lt;have e1:enc (b::l)%256=b.toNat:=by rw[zb2];omega
  have e2:enc (b::l)/256=enc l:=by rw[zb2];omega
  simp only[List.length_cons,z1ce,e1,e2,List.range'_succ,List.find?_cons,Nat.sub_self]
  have e3:((b::l)[0]! == c.toUInt8)=Nat.beq b.toNat c:=by
   have:(b::l)[0]! =b:=rfl;rw[this]
   by_cases h:b.toNat=c
   ·subst h
    simp
   ·rw [(Bool.eq_false_iff.2 (fun e => h (Nat.eq_of_beq_eq_true e)) : Nat.beq b.toNat c = false)]
    simp only[beq_eq_false_iff_ne,ne_eq];intro e;apply h;rw[e];simp only[Nat.toUInt8,UInt8.toNat_ofNat'];omega
  rw[e3]
  split
  ·rename_i h;rw[h]
  ·rename_i h; rw [h]
   simp only
   rw[z2c4 c hc l (i+1)];refine z257 _ ?_;intro j hj;have:=List.mem_range'.1 hj;obtain⟨k,hk,rfl⟩:=this;have e4:i+1+1*k - i=k+1:=by omega
   have e5:i+1+1*k - (i+1)=k:=by omega
   rw[e4,e5];rfl
section
variable {P:Program}{m:Map}{w0:Base}{w:World}{H H':AHeap}{nx:ANext}
theorem z214{a b:Addr}{ca cb:Array Value}{ta tb:TypeId}{fa fb:Nat×Nat}(hne:a.block≠b.block)(ha:w.heap[a.block]? =some (.cells ca ta fa))(hb:w.heap[b.block]? =some (.cells cb tb fb))(za:w.frozen? a=false)(zb:w.frozen? b=false)(ya:w.frozen? ⟨a.block,ca.size,none⟩=false)(yb:w.frozen? ⟨b.block,cb.size,none⟩=false):
  (sameAddr a b).run P w=.ok false w:=by
 simp[sameAddr,hne,za,zb,ya,yb,ha,hb,noView,viewAt,World.shape?,mayBeOne,stringish]
theorem live_ok(F:Fits w0 m H w){b o g s z:Nat}(hl:z440 H b o=true)(hm:m[b]? =some (some (g,s,z))):∃ob c t fz,H.get b=some ob∧ob.alive=true∧w.heap[g]? =some (.cells c t fz)∧w.frozen? ⟨g,s+o,none⟩=false∧w.frozen? ⟨g,c.size,none⟩=false:=by
 unfold z440 at hl
 split at hl
 ·rename_i n t e hb
  rw[Bool.and_eq_true] at hl;have ho:o<n:=Nat.le_of_ble_eq_true hl.1;obtain⟨_,c,fz,hc,hz,hsz,hfz,_⟩:=F.row b n t e g s z hb hm;obtain⟨⟨rfl,rfl⟩,hun⟩:=F.exact b n t e g s z hb hm hl.2
  have hno:∀i,i≤z→w.frozen? ⟨g,i,none⟩=false:=fun i hi=>by
   have:¬(fz.1≤i∧i<fz.2):=by
    rcases Nat.lt_or_ge i z with h1|h1
    ·exact hfz i h1
    ·have : i = z := by omega
     subst this;exact hun c e fz hc
   simp only[World.frozen?,hc]
   by_cases h1:fz.1≤i
   ·have h2 : ¬ i < fz.2 := fun h2 => this ⟨h1, h2⟩
    simp[h2]
   ·simp[h1]
  exact⟨_,c,e,fz,hb,rfl,hc,hno _ (by omega),hno _ (by omega)⟩
 ·cases hl
theorem apart_ok(F:Fits w0 m H w)(op:BinOp)(t:TypeId)(px py:Operand){x y:AV}{x' y':Value}(hx:Rel m x x')(hy:Rel m y y')(ha:z1a2 P H t x y=true)(h:(match op with
  | .eql=>some (ANext.val (.bool false),H)
  | .neq=>some (.val (.bool true),H)
  |_=>none)=some (nx,H')):PureOK m w H nx H' ((do eqGuard op t px py x' y';binOp op t x' y').run P w):=by
 unfold z1a2 at ha
 split at ha
 ·rename_i b o b' o'
  simp only[Bool.and_eq_true,Bool.not_eq_true'] at ha;obtain⟨h1,h2,h3,h4⟩:=ha;cases hx with| @ptr _ _ g s z hm=>
  cases hy with| @ptr _ _ g' s' z' hm'=>
  obtain⟨ob,c,ty,fz,a1,a2,a3,a4,a5⟩:=live_ok F h2 hm;obtain⟨ob',c',ty',fz',b1,b2,b3,b4,b5⟩:=live_ok F h3 hm';have hbb:b≠b':=fun e=>by rw[e,Nat.beq_refl] at h1;cases h1
  have hgg:g≠g':=fun e=>by
   subst e;exact F.sep b b' ob ob' g s z s' z' hbb a1 b1 a2 b2 hm hm'
  unfold z433 at h4
  split at h4
  ·rename_i e hu
   split at h4
   ·rename_i i hi
    have hsz:i.size≠0:=fun e=>by rw[e] at h4;cases h4
    have hsa:=z214 (P:=P) (a:=⟨g,s+o,none⟩) (b:=⟨g',s'+o',none⟩) hgg a3 b3 a4 b4 a5 b5
    have he:∀d:Nat,(Op.equalIn (d+1) t (.pointer (some ⟨g,s+o,none⟩)) (.pointer (some ⟨g',s'+o',none⟩))).run P w=.ok false w:=fun d=>by
     simp[Op.equalIn,run_underlying hu,sizeOf,typeInfo,hi,hsz,hsa]
    have hg:∀op,(eqGuard op t px py (.pointer (some ⟨g,s+o,none⟩)) (.pointer (some ⟨g',s'+o',none⟩))).run P w=.ok () w:=fun op=>
     z144 op t px py _ _ (fun l e=>by cases e) (.inl (fun e=>by cases e)) w
    split at h
    ·refine z37 (v' := .bool false) h ?_ (.bool false)
     rw[Sem.run_bind,hg,Result.andThen_ok];simp only[binOp]
     simp[Op.equal,Op.maxDepth,he 9999]
    ·refine z37 (v' := .bool true) h ?_ (.bool true)
     rw[Sem.run_bind,hg,Result.andThen_ok];simp only[binOp]
     simp[Op.equal,Op.maxDepth,he 9999]
    ·cases h
   ·cases h4
  ·cases h4
 ·cases ha
end
section
variable {P:Program}{m:Map}{w0:Base}{w:World}{H H':AHeap}{nx:ANext}
theorem PureOK.op{s:Sem Value}(F:Fits w0 m H w)(h:PureOK m w H nx H' (s.run P w)):z237 w0 m H' nx ((do pure (Next.value (←s)):Sem Next).run P w):=(PureOK.post F h).op
theorem z3ee{s:Sem Unit}(h:∃w',nx=.skip∧Fits w0 m H' w'∧s.run P w=.ok () w'):z237 w0 m H' nx ((do s;pure .skip:Sem Next).run P w):=by
 obtain⟨w',rfl,F,hr⟩:=h;exact⟨m,w',Ext.refl m,F,by simp[z462,hr]⟩
theorem z401{ρ:z1be}{ρ':Operand→Value}{fn:Fn}{first captured:Array Operand}(hr:∀x∈first.toList++captured.toList,∀v,ρ x=some v→Rel m v (ρ' x))(h:zf3 ρ H fn first captured=some (nx,H')):PureOK m w H nx H' ((Instr.makeFunc fn (first.map ρ') (captured.map ρ')).run P w):=by
 unfold zf3 at h
 split at h
 ·split at h
  ·rename_i a b ha hb
   have h1:=z372 (m:=m) _ a (fun x hx=>hr x (List.mem_append_left _ hx)) ha;have h2:=z372 (m:=m) _ b (fun x hx=>hr x (List.mem_append_right _ hx)) hb;refine z37 h (v':=.func (.func _) ⟨first.toList.map ρ'⟩ ⟨captured.toList.map ρ'⟩) ?_ (.fn h1 h2);simp only[Instr.makeFunc,Sem.run_pure]
   congr 2<;>(apply Array.ext';simp)
  ·cases h
 ·cases h
theorem z319{f:FuncId}(h:z164 P f=true)(args:Array Value)(w:World):(callFunc f args).run P w=.ok (.enter f args) w:=by
 unfold z164 at h
 split at h
 ·rename_i fn hf
  simp only[Bool.and_eq_true,Bool.not_eq_true'] at h;obtain⟨c,hc⟩:=Option.isSome_iff_exists.1 h.1;exact Go.MuLone.run_callFunc_enter hf h.2 hc args w
 ·cases h
theorem z487{f:FuncId}{args:List AV}{args':List Value}(hr:RelL m args args')(h:z2c6 P H f args=some (nx,H')):∃v v',nx=.val v∧H'=H∧(callFunc f ⟨args'⟩).run P w=.ok (.value v') w∧Rel m v v':=by
 unfold z2c6 at h
 split at h
 ·rename_i fn hf
  split at h
  ·rename_i hc
   obtain⟨h1,h2,h3⟩:=hc;have h3:Extern.findNext fn=none:=by simpa using h3
   unfold externV at h
   split at h
   ·split at h
    ·rename_i hrow
     simp only[Option.some.injEq,Prod.mk.injEq] at h;obtain⟨rfl,rfl⟩:=h;cases hr with| @cons _ y _ _ hx hr=>
     cases hr;refine⟨_,y,rfl,rfl,?_,hx⟩;rw[run_callFunc_extern hf h2 h1 h3 (z364 hrow)];rfl
    ·cases h
   ·rename_i n v c
    split at h
    ·rename_i hc2
     obtain⟨hrow,hlt⟩:=hc2;have hlt:=z234 hlt;cases hr with|cons hx hr=>
     cases hr with|cons hy hr=>
     cases hr;cases hx with|str s e1 e2=>
     have:=z6c hy;subst this
     have hrun:(callFunc f ⟨[.string s,.int .u8 (Int.ofNat c)]⟩).run P w=.ok (.value (.int .i64 (firstIdx s c.toUInt8))) w:=by
      rw[run_callFunc_extern hf h2 h1 h3 (z2f9 hrow)];have:=run_indexByte_string (P:=P) s (Int.ofNat c) w;rw[this];rfl
     have hfb:=z2c4 c hlt s.data.toList 0;rw[e1,e2] at hfb
     have hidx:firstIdx s c.toUInt8=(match z1ce c n v 0 with
       |some i=>(i:Int)
       |none=> -1):=by
      unfold firstIdx;rw[hfb]
      have:(List.range s.size).find? (fun i=>s[i]! == c.toUInt8)=(List.range' 0 n).find? (fun j=>s.data.toList[j - 0]! == c.toUInt8):=by
       rw[List.range_eq_range',zc7,e1];refine z257 _ ?_;intro j hj;have:=List.mem_range'.1 hj;obtain⟨k,hk,rfl⟩:=this;have hk':k<s.size:=by rw[zc7,e1];exact hk
       have hk2:k<s.data.toList.length:=by rw[e1];exact hk
       have a1:s[0+1*k]! =s.data.toList[k]:=by
        have:0+1*k=k:=by omega
        rw[this,getElem!_pos s k hk'];rfl
       have a2:s.data.toList[0+1*k - 0]! =s.data.toList[k]:=by
        have:0+1*k - 0=k:=by omega
        rw[this,getElem!_pos s.data.toList k hk2]
       rw[a1,a2]
      rw[this]
      generalize(List.range' 0 n).find? (fun j=>s.data.toList[j - 0]! == c.toUInt8)=q
      cases q<;>rfl
     split at h
     ·rename_i i hi
      simp only[Option.some.injEq,Prod.mk.injEq] at h;obtain⟨rfl,rfl⟩:=h;refine⟨_,_,rfl,rfl,hrun,?_⟩;rw[hidx,hi];exact .int .i64 _
     ·rename_i hi
      simp only[Option.some.injEq,Prod.mk.injEq] at h;obtain⟨rfl,rfl⟩:=h;refine⟨_,_,rfl,rfl,hrun,?_⟩;rw[hidx,hi];exact .int .i64 _
    ·cases h
   ·cases h
  ·cases h
 ·cases h
theorem z399{x:AV}{x':Value}(hx:Rel m x x')(ts:Array TypeId)(ty:TypeId)(h:ze9 H x=some (nx,H')):PureOK m w H nx H' ((Builtin.unsafeSliceData_ ts ty #[x']).run P w):=by
 unfold ze9 at h
 split at h
 ·rename_i b o n sz
  cases hx with| @sl _ _ _ _ cap g s z hm hn hz=>
  exact z37 h (Lib.run_unsafeSliceData_row w ts ty _ _ _ (by omega)) (.ptr hm)
 ·cases hx
  exact z37 h (Lib.run_unsafeSliceData_nil w ts ty 0 0) .nilp
 ·cases h
theorem z2b9{e:TypeId}(hc:P.cellsOf e=1)(count off n:Nat)(hn:off+n≤count):liesAt P P.depth e count off e n=true:=by
 have hd:P.depth=(2*(P.types.size+Made.depth)+1)+1:=rfl;rw[hd];simp only[liesAt,Bool.or_eq_true]
 left
 rw[hd]
 simp[rowAt,hc,hn,sameLayout,Nat.mod_one]
theorem z1f3(w:World)(pt it ty e:TypeId)(hp:P.underlying pt=some (.pointer e))(hc:P.cellsOf e=1)(g off cells:Nat)(hsh:w.shape? g=some (e,cells))(l:List UInt8)(h0:l≠[])(hn:off+l.length≤cells)(h63:l.length≤9223372036854775807)(k:IntKind)(hcell:∀j x,l[j]? =some x→w.cell? ((⟨g,off,none⟩:Addr).add j)=some (.int .u8 x.toNat)):
  (Builtin.unsafeString_ #[pt,it] ty #[.pointer (some ⟨g,off,none⟩),.int k l.length]).run P w=.ok (.string ⟨l.toArray⟩) (w.freeze ⟨g,off,none⟩ l.length):=by
 have hl:l.length≠0:=by simpa using h0
 have hlb:=Lib.run_loadBytes (P:=P) w l ⟨g,off,none⟩ .empty hcell;have hlies:=z2b9 (P:=P) hc (cells/P.cellsOf e) off l.length (by rw[hc];simpa using hn);have h63':¬(9223372036854775807:Int)<(l.length:Int):=by omega
 have hdef:Builtin.unsafeString_ #[pt,it] ty #[.pointer (some ⟨g,off,none⟩),.int k l.length]=
   (do
    let n ←asInt (.int k l.length)
    if n<0 then runtimePanic (.error "unsafe.String: len out of range")
    if n>IntKind.i64.max then unsupported (.unsafePointer "String: a length above the largest int")
    if n=0 then pure (.string .empty)
    else if ←variablesAt ⟨g,off,none⟩ (←Go.elemOf pt) n.toNat then do
     let s ←loadBytes ⟨g,off,none⟩ .empty n.toNat
     freeze ⟨g,off,none⟩ n.toNat
     pure (.string s)
    else unsupported (.unsafePointer "String: not so many bytes at ptr")):=rfl
 rw[hdef];have hmax:IntKind.i64.max=9223372036854775807:=rfl;have hneg:¬(l.length:Int)<0:=by omega
 simp[asInt,asIntOf,hmax,h63',hneg,hl,variablesAt,hsh,Go.elemOf,run_underlying hp,hlies,hlb]
theorem z408(w:World)(p:Addr)(n:Nat):w.heap.size≤(w.freeze p n).heap.size:=by
 unfold World.freeze
 split
 ·exact Nat.le_refl _
 ·simp
theorem z3c6(w:World)(p:Addr)(n k:Nat)(h:k≠p.block):(w.freeze p n).heap[k]? =w.heap[k]?:=by
 unfold World.freeze
 split
 ·rfl
 ·simp only [Array.getElem?_modify]
  rw[if_neg (fun e=>h e.symm)]
theorem Fits.gone(F:Fits w0 m H w){b n g s z:Nat}{t:T AV}{e:TypeId}{w':World}(hrow:H.get b=some (.row n t e))(hm:m[b]? =some (some (g,s,z)))(hb:Below w0.heap.size w0.w w')(hk:∀k,k≠g→w'.heap[k]? =w.heap[k]?)(hz:w.heap.size≤w'.heap.size):Fits w0 m (H.put b .dead) w':=by
 refine(F.kill (F.lt_next hrow)).world hb (fun b' o' g' s' z' h1 h2 h3=>hk g' (fun eg=>?_)) (fun k o hp=>hk k (fun e=>(F.pin k o hp).2 b _ s z hrow rfl (by rw[e];exact hm))) hz;subst eg
 by_cases eb:b=b'
 ·subst eb;rw[z1f] at h1;cases h1;cases h2
 ·rw [z16 _ eb] at h1
  exact F.sep b b' _ o' g' s z s' z' eb hrow h1 rfl h2 hm h3
theorem z38d(F:Fits w0 m H w){pt it ty:TypeId}{x y:AV}{x' y':Value}(hx:Rel m x x')(hy:Rel m y y')(h:zbe P H pt x y=some (nx,H')):ValPost w0 m H' nx ((Builtin.unsafeString_ #[pt,it] ty #[x',y']).run P w):=by
 have hnone0:∀(q:Option Addr) (k:IntKind),(Builtin.unsafeString_ #[pt,it] ty #[.pointer q,.int k 0]).run P w=.ok (.string .empty) w:=fun q k=>Lib.run_unsafeString_none w pt it ty q;unfold zbe at h
 split at h
 ·have := z6c hy; subst this
  cases hx;exact PureOK.post F (z37 h (hnone0 _ _) (.str _ rfl rfl))
 ·have := z6c hy; subst this
  cases hx;exact PureOK.post F (z37 h (hnone0 _ _) (.str _ rfl rfl))
 ·rename_i b o k n
  have:=z6c hy;subst this;cases hx with| @ptr _ _ g s z hm=>
  split at h
  ·rename_i e cs e' hp hcs he'
   split at h
   ·rename_i hc
    obtain⟨h1,h2,h3⟩:=hc;have h1:=Nat.eq_of_beq_eq_true h1;have h2:=Nat.eq_of_beq_eq_true h2;have h3:=Nat.le_of_ble_eq_true h3;subst h1
    split at h
    ·rename_i q v hb
     simp only[Option.some.injEq,Prod.mk.injEq] at h;obtain⟨rfl,rfl⟩:=h;obtain⟨l',r1,r2,r3,r4⟩:=z17b F hm hcs;obtain⟨l,rfl,r5,r6⟩:=z2d5 _ _ q v r1 hb;have hln:l.length=n+1:=by rw[←r2];simp[z57]
     have hrow:∃N t,H.get b=some (.row N t e'):=by
      unfold z91 at he'
      split at he'
      ·rename_i N t e2 hr
       simp only[Option.some.injEq] at he';subst he';exact⟨N,t,hr⟩
      ·cases he'
     obtain⟨N,t,hrow⟩:=hrow;obtain⟨hB,c,fz,hheap,hz,hsz,_,hnone,_⟩:=F.row b N t e' g s z hrow hm
     have hbound:s+o+l.length≤z:=by
      have hget:z44 H b o (n+1)=some cs:=hcs;unfold z44 at hget;rw[hrow] at hget
      simp only at hget
      obtain⟨hl,hg⟩:=y25 t (n+1) o cs hget
      have hlast:o+n<N:=by
       rcases Nat.lt_or_ge (o+n) N with h'|h'
       ·exact h'
       ·have e1 := hnone _ h'
        have e2:=hg n (by omega);rw[e1,List.getElem?_eq_getElem (by omega)] at e2
        cases e2
      omega
     have hsh:w.shape? g=some (e',z):=by simp[World.shape?,hheap,hz]
     have hcell:∀j x,l[j]? =some x→w.cell? ((⟨g,s+o,none⟩:Addr).add j)=some (.int .u8 x.toNat):=by
      intro j x hj;rw[Addr.add_mid];exact r3 j _ (by simp[z57,hj])
     have hrun:=z1f3 w pt it ty e' hp h2 g (s+o) z hsh l (fun e=>by rw[e] at hln;simp at hln) hbound (by omega) k hcell;have hcast:((n+1:Nat):Int)=(l.length:Int):=by omega
     refine⟨m,_,_,.string ⟨l.toArray⟩,Ext.refl m,F.gone hrow hm (Lib.below_freeze F.below (p:=⟨g,s+o,none⟩) hB l.length) (fun k hk=>z3c6 w _ _ k hk) (z408 w _ _),rfl,?_,.str _ (by simpa using r5) (by simpa using r6)⟩
     change (Builtin.unsafeString_ #[pt,it] ty #[.pointer (some ⟨g,s+o,Option.none⟩),.int k ((n+1:Nat):Int)]).run P w=_
     rw[hcast];exact hrun
    ·cases h
   ·cases h
  ·cases h
 ·cases h
theorem gen_clone:(Extern.allGenericRows.lookup (Extern.MapsClone.rows.headD default).1)=none:=by kernel_rfl
theorem z3ef:Extern.allTypedRows.lookup (Extern.MapsClone.rows.headD default).1=none:=by kernel_rfl
theorem all_clone:Extern.allRows.lookup (Extern.MapsClone.rows.headD default).1=some Extern.MapsClone.clone:=by kernel_rfl
theorem z483{fn:Func}(h:z163 fn.name=true):Extern.find fn=some Extern.MapsClone.clone:=by
 have e:fn.name=(Extern.MapsClone.rows.headD default).1:=by
  unfold z163 isRow at h
  split at h
  ·rename_i n r hr
   have h:=eq_of_beq h;rw[←h]
   simp[Extern.MapsClone.rows] at hr ⊢
   exact hr.1.symm
  ·cases h
 unfold Extern.find;simp only[e,gen_clone,z3ef,all_clone,Option.map_none];rfl
theorem cloneM_ok(F:Fits w0 m H w){f:FuncId}{fn:Func}(hf:P.funcs[f]? =some fn)(h1:fn.body.isNone=true)(h2:(fn.name == "runtime.NumGoroutine")=false)(h3:Extern.findNext fn=none)(h4:z163 fn.name=true){args:List AV}{args':List Value}(hr:RelL m args args')(h:cloneM H args=some (nx,H')):
  ∃m' w' v v',Ext m m'∧Fits w0 m' H' w'∧nx=.val v∧(callFunc f ⟨args'⟩).run P w=.ok (.value v') w'∧Rel m' v v':=by
 unfold cloneM at h
 split at h
 ·rename_i t b
  split at h
  ·rename_i es hb
   simp only[Option.some.injEq,Prod.mk.injEq] at h;obtain⟨rfl,rfl⟩:=h;cases hr with|cons hi hr=>
   cases hr;cases hi with|ifc hi=>
   cases hi with| @mp _ g hm=>
   obtain⟨_,_,_,es',clock,hheap,hrel⟩:=F.map b es _ _ _ hb hm;have Fa:=F.alloc (.map es' clock);have hgo:=zd2 (P:=P) hheap;refine⟨_,w.alloc (.map es' clock),_,.iface t (.map (some w.heap.size)),Ext.append m _,Fa.new (.map es) (g:=w.heap.size) (s:=0) (z:=0) (fun b o' s' z' h1 h2 h3=>?_) (fun n t e he=>by cases he) (fun es2 he=>?_) (fun n t e he=>by cases he) (hpin:=fun k o' hk _=>by have:=zc1 (F.pin k o' hk).1;omega),rfl,?_,?_⟩
   ·have:=F.mapped_lt h1 h2 h3;omega
   ·cases he
    exact⟨rfl,rfl,F.size,es',clock,heap_alloc_new w _,hrel.mono (ye m _)⟩
   ·rw [run_callFunc_extern hf h2 h1 h3 (z483 h4)]
    have hdef:Extern.MapsClone.clone #[.iface t (.map (some g))]=(do
      let .map entries clock ←getObj g|stuck "maps.clone: a map expected"
      pure (.iface t (.map (some (←newObj (.map entries clock)))))):=rfl
    rw[show (⟨[Value.iface t (.map (some g))]⟩:Array Value)= #[.iface t (.map (some g))] from rfl,hdef]
    simp[hgo]
   ·exact .ifc (.mp (z162 F _))
  ·cases h
 ·cases h
theorem z486(F:Fits w0 m H w){f:FuncId}{args:List AV}{args':List Value}(hr:RelL m args args')(h:z25b P H f args=some (nx,H')):
  ∃m' w' v v',Ext m m'∧Fits w0 m' H' w'∧nx=.val v∧(callFunc f ⟨args'⟩).run P w=.ok (.value v') w'∧Rel m' v v':=by
 unfold z25b at h
 split at h
 ·rename_i fn hf
  split at h
  ·rename_i hc
   obtain⟨h1,h2,h3⟩:=hc;have h3:Extern.findNext fn=none:=by simpa using h3
   split at h
   case isFalse=>
    split at h
    ·rename_i h4
     exact cloneM_ok F hf h1 h2 h3 h4 hr h
    ·cases h
   rename_i h4;unfold makeZ at h
   split at h
   ·rename_i n
    split at h
    ·rename_i t ht
     split at h
     ·rename_i e he
      split at h
      ·rename_i hn
       obtain⟨hn,hx⟩:=hn;have hn:=Nat.le_of_ble_eq_true hn;simp only[Option.some.injEq,Prod.mk.injEq] at h;obtain⟨rfl,rfl⟩:=h;cases hr with|cons hi hr=>
       cases hr;have:=z6c hi;subst this;obtain⟨cs,hrun,hle,_⟩:=Lib.run_makeNoZero (P:=P) w fn.params t e (za5 he) n (by omega)
       have hdef:∀res:Array TypeId,Extern.BytealgMakeNoZero.makeNoZero fn.params res #[.int .i64 (n:Int)]=(do
         let some t:=res[0]? |stuck "bytealg.MakeNoZero: no result type"
         let .slice elem ←underlying t|stuck "bytealg.MakeNoZero: slice type expected"
         if (n:Int)<0||(n:Int)>2 ^ 48 then runtimePanic (.error "makeslice: len out of range")
         let cap ←choose (.appendCap (n:Int).toNat 0 elem)
         askRoom cap
         let bytes ←choose (.extern "internal/bytealg.MakeNoZero.bytes" 0)
         let a ←newRow elem (Extern.BytealgMakeNoZero.digits cap bytes #[])
         pure (.slice (some a) (n:Int).toNat cap)):=fun _=>rfl
       have hdo:Extern.BytealgMakeNoZero.makeNoZero fn.params fn.resultTypes #[.int .i64 (n:Int)]=Extern.BytealgMakeNoZero.makeNoZero fn.params #[t] #[.int .i64 (n:Int)]:=by
        rw[hdef,hdef,ht];rfl
       have hcall:(callFunc f ⟨[.int .i64 (Int.ofNat n)]⟩).run P w=.ok (.value (.slice (some ⟨w.heap.size,0,none⟩) n cs.size)) (w.drew.drew.alloc (.cells cs e)):=by
        rw[run_callFunc_extern hf h2 h1 h3 (z2c3 h4)];rw[show (⟨[Value.int .i64 (Int.ofNat n)]⟩:Array Value)= #[.int .i64 (n:Int)] from rfl,hdo,hrun];rfl
       have Fa:=(F.drew.drew).alloc (.cells cs e);have hmap:(m++[some (w.heap.size,0,cs.size)])[H.next]? =some (some (w.heap.size,0,cs.size)):=z162 F _;refine⟨m++[some (w.heap.size,0,cs.size)],_,_,_,Ext.append m _,(Fa.new (zb0 [] e) ?_ ?_ (fun es h=>by unfold zb0 at h;cases h) ?_ (hpin:=fun k o' hk _=>by have:=zc1 (F.pin k o' hk).1;omega)),rfl,hcall,.sl hmap hle (by omega)⟩
       ·intro b o' s' z' hb ho hm
        have:=F.mapped_lt hb ho hm;omega
       ·intro n' t' e' h
        unfold zb0 at h;cases h;refine⟨F.size,cs,(0,0),heap_alloc_new w.drew.drew _,rfl,Nat.zero_le _,fun i _=>by simp,fun i _=>y21 i,fun i hi=>absurd hi (Nat.not_lt_zero i)⟩
       ·intro n' t' e' h hex
        unfold zb0 at h;cases h;rw[hx] at hex;cases hex
      ·cases h
     ·cases h
    ·cases h
   ·cases h
  ·cases h
 ·cases h
theorem z48e(F:Fits w0 m H w){b:Builtin}{ts:Array TypeId}{ty:TypeId}{cs:Array Bool}{args:List AV}{args':List Value}(hr:RelL m args args')(h:z10f P b ts args H=some (nx,H')):z237 w0 m H' nx ((Go.builtin b ts ty cs ⟨args'⟩).run P w):=by
 have hts:∀{t:TypeId} {l:List TypeId},ts.toList=t::l→ts[0]? =some t:=by
  intro t l e;rw[←Array.getElem?_toList,e];rfl
 have hts1:∀{t u:TypeId} {l:List TypeId},ts.toList=t::u::l→ts[1]? =some u:=by
  intro t u l e;rw[←Array.getElem?_toList,e];rfl
 unfold z10f at h
 split at h
 ·split at h
  ·rename_i x t l e
   cases hr with|cons hx hr=>
   cases hr;exact(len_ok F hx ts ty (hts e) h).op F
  ·cases h
 ·split at h
  ·rename_i s x t u l e
   cases hr with|cons hx hr=>
   cases hr with|cons hy hr=>
   cases hr;exact(z235 F hx hy ts ty (hts e) (hts1 e) h).op
  ·cases h
 ·split at h
  ·rename_i d s t l e
   cases hr with|cons hx hr=>
   cases hr with|cons hy hr=>
   cases hr;exact(z417 F hx hy ts ty (hts e) h).op
  ·cases h
 ·split at h
  ·rename_i x t l e
   cases hr with|cons hx hr=>
   cases hr;exact(clear_ok F hx ts ty (hts e) h).op
  ·cases h
 ·split at h
  ·rename_i m k t l e
   cases hr with|cons hx hr=>
   cases hr with|cons hy hr=>
   cases hr;exact(delete_ok F hx hy ts ty (hts e) h).op
  ·cases h
 ·split at h
  ·rename_i k a rest
   cases hr with|cons hx hr=>
   have:=z6c hx;subst this;refine PureOK.op F (s:=Builtin.max_ ts ty _) ?_;unfold z1a5 at h
   split at h
   ·rename_i v hv
    obtain⟨v',h1,h2⟩:=z312 (P:=P) (w:=w) k _ _ a v hr hv;exact z37 h h1 h2
   ·cases h
  ·cases h
 ·split at h
  ·rename_i k a rest
   cases hr with|cons hx hr=>
   have:=z6c hx;subst this;refine PureOK.op F (s:=Builtin.min_ ts ty _) ?_;unfold z1a5 at h
   split at h
   ·rename_i v hv
    obtain⟨v',h1,h2⟩:=z311 (P:=P) (w:=w) k _ _ a v hr hv;exact z37 h h1 h2
   ·cases h
  ·cases h
 ·split at h
  ·rename_i t v
   cases hr with|cons hx hr=>
   cases hr;simp only[Option.some.injEq,Prod.mk.injEq] at h;obtain⟨rfl,rfl⟩:=h;cases hx with| @ifc _ _ v' hv=>
   exact⟨m,w,Ext.refl m,F,.iface t v',by simp[Go.builtin,Instr.panic],.ifc hv⟩
  ·cases h
 ·split at h
  ·rename_i x
   cases hr with|cons hx hr=>
   cases hr;exact(z399 hx ts ty h).op F
  ·cases h
 ·split at h
  ·rename_i x n pt it e
   cases hr with|cons hx hr=>
   cases hr with|cons hy hr=>
   cases hr;have ets:ts= #[pt,it]:=by apply Array.ext';simpa using e
   subst ets;exact(z38d F hx hy h).op
  ·cases h
 ·split at h
  ·rename_i t l e
   split at h
   ·rename_i el hel
    cases hr with|cons hx hr=>
    cases hr;cases hx;simp only[Option.some.injEq,Prod.mk.injEq] at h;obtain⟨rfl,rfl⟩:=h;exact PureOK.op F (s:=Builtin.cap_ ts ty _) (⟨_,.int .i64 0,rfl,rfl,by simp[Builtin.cap_,hts e,run_underlying (za5 hel),goInt],.int .i64 _⟩)
   ·cases h
  ·cases h
 ·cases h
theorem z3df{ρ:z1be}{ρ':Operand→Value}{args:Array Operand}{as:List AV}(hr:∀x∈args.toList,∀v,ρ x=some v→Rel m v (ρ' x))(h:z286 ρ args.toList=some as):args.map ρ'=⟨args.toList.map ρ'⟩∧RelL m as (args.toList.map ρ'):=
 ⟨by apply Array.ext';simp,z372 _ as hr h⟩
theorem call_ok(F:Fits w0 m H w){ρ:z1be}{ρ':Operand→Value}{c:Call}{ty:TypeId}(hr:∀x∈c.operands.toList,∀v,ρ x=some v→Rel m v (ρ' x))(h:z266 P ρ H c=some (nx,H')):z237 w0 m H' nx ((do let d ←resolve ρ' c ty;invoke d.target d.args:Sem Next).run P w):=by
 unfold z266 at h
 split at h
 ·rename_i args ha
  obtain⟨he,hra⟩:=z3df (m:=m) (ρ':=ρ') (fun x hx=>hr x (by simp only[Call.operands];simp[hx])) ha
  split at h
  ·rename_i b hb
   have:=z48e (ty:=ty) (cs:=c.args.map fun| .const _=>true|_=>false) F hra h;simp only[resolve,hb,he,Sem.run_bind,Sem.run_pure,Result.andThen_ok,invoke];exact this
  ·cases h
  ·rename_i f hf
   unfold callV at h
   split at h
   ·rename_i g a b e
    split at h
    ·rename_i hbody
     simp only[Option.some.injEq,Prod.mk.injEq] at h;obtain⟨rfl,rfl⟩:=h;have hrf:=hr f (by simp[Call.operands,hf]) _ e
     generalize hv:ρ' f=vf at hrf
     cases hrf with| @fn _ _ _ l' c' h1 h2=>
     refine⟨m,w,Ext.refl m,F,l'++c.args.toList.map ρ'++c',?_,(h1.append hra).append h2⟩;simp only[resolve,hf,he,hv,Deferred.ofValue,Sem.run_bind,Sem.run_pure,Result.andThen_ok,invoke];have:(⟨l'⟩++⟨c.args.toList.map ρ'⟩++⟨c'⟩:Array Value)=⟨l'++c.args.toList.map ρ'++c'⟩:=by simp
     rw[this];exact z319 hbody _ w
    ·split at h
     ·have hrf := hr f (by simp [Call.operands, hf]) _ e
      generalize hv:ρ' f=vf at hrf
      cases hrf with| @fn _ _ _ l' c' h1 h2=>
      obtain⟨m',w',v,v',hx,F',rfl,hrun,hvr⟩:=z486 (P:=P) F ((h1.append hra).append h2) h;refine⟨m',w',hx,F',v',?_,hvr⟩;simp only[resolve,hf,he,hv,Deferred.ofValue,Sem.run_bind,Sem.run_pure,Result.andThen_ok,invoke];have:(⟨l'⟩++⟨c.args.toList.map ρ'⟩++⟨c'⟩:Array Value)=⟨l'++c.args.toList.map ρ'++c'⟩:=by simp
      rw[this];exact hrun
     have hrf:=hr f (by simp[Call.operands,hf]) _ e
     generalize hv:ρ' f=vf at hrf
     cases hrf with| @fn _ _ _ l' c' h1 h2=>
     obtain⟨v,v',rfl,rfl,hrun,hvr⟩:=z487 (P:=P) (w:=w) ((h1.append hra).append h2) h;refine⟨m,w,Ext.refl m,F,v',?_,hvr⟩;simp only[resolve,hf,he,hv,Deferred.ofValue,Sem.run_bind,Sem.run_pure,Result.andThen_ok,invoke];have:(⟨l'⟩++⟨c.args.toList.map ρ'⟩++⟨c'⟩:Array Value)=⟨l'++c.args.toList.map ρ'++c'⟩:=by simp
     rw[this];exact hrun
   ·rename_i b e
    unfold z423 at h
    split at h
    ·rename_i r hb
     split at h
     ·rename_i hlen
      simp only[Option.some.injEq,Prod.mk.injEq] at h;obtain⟨rfl,rfl⟩:=h;have hrf:=hr f (by simp[Call.operands,hf]) _ e
      generalize hv:ρ' f=vf at hrf
      cases hrf with| @yld _ g hm=>
      obtain⟨_,_,_,r',h1,h2,h3,h4,h5,h6,h7,h8,h9⟩:=F.obj _ _ _ _ _ hb hm;have hlen:=Nat.eq_of_beq_eq_true hlen;refine⟨m,w,Ext.refl m,F,g,r',c.args.toList.map ρ',hm,h1,by rw[h6];exact hlen,hra,?_⟩;simp only[resolve,hf,he,hv,Deferred.ofValue,Sem.run_bind,Sem.run_pure,Result.andThen_ok,invoke];have h10:=run_yield (P:=P) (args:=⟨c.args.toList.map ρ'⟩) h1 (by rw[h6, ←hlen,hra.length];simp)
      simpa using h10
     ·cases h
    ·cases h
   ·cases h
 ·cases h
theorem defer_ok(F:Fits w0 m H w){ρ:z1be}{ρ':Operand→Value}{c:Call}{ty:TypeId}(hr:∀x∈c.operands.toList,∀v,ρ x=some v→Rel m v (ρ' x))(h:z355 P ρ H c=some (nx,H')):z237 w0 m H' nx ((do pure (.defer (←resolve ρ' c ty)):Sem Next).run P w):=by
 unfold z355 at h
 split at h
 ·rename_i args ha
  obtain⟨he,hra⟩:=z3df (m:=m) (ρ':=ρ') (fun x hx=>hr x (by simp only[Call.operands];simp[hx])) ha
  split at h
  ·rename_i f hf
   unfold deferV at h
   split at h
   ·rename_i g a b e
    split at h
    ·rename_i hbody
     simp only[Option.some.injEq,Prod.mk.injEq] at h;obtain⟨rfl,rfl⟩:=h;have hrf:=hr f (by simp[Call.operands,hf]) _ e
     generalize hv:ρ' f=vf at hrf
     cases hrf with| @fn _ _ _ l' c' h1 h2=>
     refine⟨m,w,Ext.refl m,F,l'++c.args.toList.map ρ',c',?_,h1.append hra,h2⟩;simp only[resolve,hf,he,hv,Deferred.ofValue,Sem.run_bind,Sem.run_pure,Result.andThen_ok]
     simp
    ·cases h
   ·cases h
  ·cases h
 ·cases h
theorem z436(F:Fits w0 m H w){ρ:z1be}{ρ':Operand→Value}(o:Oper)(hr:∀x∈o.op.operands.toList,∀v,ρ x=some v→Rel m v (ρ' x))(h:opA P ρ o H=some (nx,H')):z237 w0 m H' nx ((execOp ρ' o).run P w):=by
 obtain⟨dst,op,ty,pos,after,guard⟩:=o;unfold opA z251 at h
 simp only at h hr
 cases op
 case move x=>
  simp only[z413] at h;have:=z2ad (m:=m) (w:=w) (r:=.ok (ρ' x) w) (x':=ρ' x) h (fun v hv=>⟨rfl,hr x (by simp[Op.operands]) v hv⟩);exact PureOK.op (P:=P) (s:=pure (ρ' x)) F this
 case assign x=>
  simp only[z2ce] at h;have:=z2ad (m:=m) (w:=w) (r:=.ok (ρ' x) w) (x':=ρ' x) h (fun v hv=>⟨rfl,hr x (by simp[Op.operands]) v hv⟩);exact PureOK.op (P:=P) (s:=pure (ρ' x)) F this
 case pick c a b=>
  simp only[z412,z3b1] at h
  split at h
  ·rename_i e
   have hc:=zb1 (hr c (by simp[Op.operands]) _ e);have:=z2ad (m:=m) (w:=w) (r:=.ok (ρ' a) w) (x':=ρ' a) h (fun v hv=>⟨rfl,hr a (by simp[Op.operands]) v hv⟩);have:=PureOK.op (P:=P) (s:=pure (ρ' a)) F this;simp only[execOp,hc,asBool];exact this
  ·rename_i e
   have hc:=zb1 (hr c (by simp[Op.operands]) _ e);have:=z2ad (m:=m) (w:=w) (r:=.ok (ρ' b) w) (x':=ρ' b) h (fun v hv=>⟨rfl,hr b (by simp[Op.operands]) v hv⟩);have:=PureOK.op (P:=P) (s:=pure (ρ' b)) F this;simp only[execOp,hc,asBool];exact this
  ·cases h
 case alloc e=>exact(alloc_ok F h).op
 case box e x=>exact(box_ok F (fun v hv=>hr x (by simp[Op.operands]) v hv) h).op
 case build t ps=>exact(build_ok (fun x hx v hv=>hr x (by simpa [Op.operands] using hx) v hv) h).op F
 case buildSlice t n ps=>exact(z370 F (fun x hx v hv=>hr x (by simpa [Op.operands] using hx) v hv) h).op
 case insert t m' k x=>exact z3ee (z26b F (fun v hv=>hr m' (by simp[Op.operands]) v hv) (fun v hv=>hr k (by simp[Op.operands]) v hv) (fun v hv=>hr x (by simp[Op.operands]) v hv) h)
 case load t a=>exact(z402 F (fun v hv=>hr a (by simp[Op.operands]) v hv) h).op F
 case store t a x=>exact z3ee (store_ok F (fun v hv=>hr a (by simp[Op.operands]) v hv) (fun v hv=>hr x (by simp[Op.operands]) v hv) h)
 case ready g=>cases h
 case waits g=>cases h
 case nilCheck x=>
  obtain⟨v,v',rfl,rfl,h1,h2⟩:=z3b5 (P:=P) (w:=w) (x':=ρ' x) (fun v hv=>hr x (by simp[Op.operands]) v hv) h ⟨dst,.nilCheck x,ty,pos,after,guard⟩ x ρ' rfl rfl;exact⟨m,w,Ext.refl m,F,v',h1,h2⟩
 case binOp op t x y p=>
  simp only[z36b,z21c] at h
  split at h
  ·rename_i a b ha hb
   split at h
   ·rename_i hap
    exact PureOK.op F (apart_ok F op t x y (hr x (by simp[Op.operands]) _ ha) (hr y (by simp[Op.operands]) _ hb) (Bool.and_eq_true_iff.1 hap).2 h)
   ·simp only [z75] at h
    unfold z1a5 at h
    split at h
    ·rename_i v hv
     obtain⟨v',h1,h2⟩:=binA_ok op t x y a b (ρ' x) (ρ' y) (hr x (by simp[Op.operands]) _ ha) (hr y (by simp[Op.operands]) _ hb) v hv w;exact PureOK.op F (z37 h h1 h2)
    ·cases h
  ·cases h
 case unOp op t x=>exact(un_ok (fun v hv=>hr x (by simp[Op.operands]) v hv) h).op F
 case convert s d x=>exact(conv_ok F (fun v hv=>hr x (by simp[Op.operands]) v hv) h).op
 case sliceToArrayPointer=>cases h
 case makeInterface t x=>exact(iface_ok (fun v hv=>hr x (by simp[Op.operands]) v hv) h).op F
 case makeFunc fn a b=>exact(z401 (fun x hx v hv=>hr x (by simpa [Op.operands] using hx) v hv) h).op F
 case makeMap t r=>exact(z479 F h).op
 case makeChan=>cases h
 case makeSlice t a b=>exact(z3b7 F (fun v hv=>hr a (by simp[Op.operands]) v hv) (fun v hv=>hr b (by simp[Op.operands]) v hv) h).op
 case slice t x lo hi mx=>exact(slice_ok F (fun o ho v hv=>hr o (by
  rcases ho with rfl|rfl|rfl|rfl<;>simp[Op.operands]) v hv) h).op F
 case fieldAddr s x f=>exact(z3cb (fun v hv=>hr x (by simp[Op.operands]) v hv) h).op F
 case field t x f=>exact(field_ok (fun v hv=>hr x (by simp[Op.operands]) v hv) h).op F
 case indexAddr t x i=>exact(z3bf (fun v hv=>hr x (by simp[Op.operands]) v hv) (fun v hv=>hr i (by simp[Op.operands]) v hv) h).op F
 case index t x i=>exact(index_ok (fun v hv=>hr x (by simp[Op.operands]) v hv) (fun v hv=>hr i (by simp[Op.operands]) v hv) h).op F
 case lookup t x i ok=>exact(lookup_ok F (fun v hv=>hr x (by simp[Op.operands]) v hv) (fun v hv=>hr i (by simp[Op.operands]) v hv) h).op F
 case mapUpdate t m' k x=>exact z3ee (z26b F (fun v hv=>hr m' (by simp[Op.operands]) v hv) (fun v hv=>hr k (by simp[Op.operands]) v hv) (fun v hv=>hr x (by simp[Op.operands]) v hv) h)
 case mapEntry=>cases h
 case entryStore=>cases h
 case range=>cases h
 case next=>cases h
 case entry=>cases h
 case typeAssert x u t ok=>exact(assert_ok (fun v hv=>hr x (by simp[Op.operands]) v hv) h).op F
 case extract t i=>exact(z485 (fun v hv=>hr t (by simp[Op.operands]) v hv) h).op F
 case call c=>exact call_ok F (fun x hx v hv=>hr x hx v hv) h
 case go=>cases h
 case defer c=>exact defer_ok F (fun x hx v hv=>hr x hx v hv) h
 case panic x=>
  simp only[z36a,z2ae] at h
  split at h
  ·rename_i t v e
   simp only[Option.some.injEq,Prod.mk.injEq] at h;obtain⟨rfl,rfl⟩:=h;have hx:=hr x (by simp[Op.operands]) _ e
   generalize hv:ρ' x=vx at hx
   cases hx with| @ifc _ _ v' hv'=>
   exact⟨m,w,Ext.refl m,F,.iface t v',by simp[execOp,Instr.panic,hv],.ifc hv'⟩
  ·cases h
 case send=>cases h
 case recv=>cases h
 case select=>cases h
end
end
noncomputable section
section
variable {P:Program}{m:Map}{w0:Base}{w:World}{H H':AHeap}{nx:ANext}
inductive RelD(m:Map):List (FuncId×List AV×List AV)→List Deferred→Prop
 |nil:RelD m [] []
 |cons {f:FuncId} {args cap:List AV} {args' cap':List Value} {l:List (FuncId×List AV×List AV)} {l':List Deferred} (h:RelL m args args') (k:RelL m cap cap') (r:RelD m l l'):
  RelD m ((f,args,cap)::l) ({target:=.fn (.func f) ⟨cap'⟩,args:=⟨args'⟩}::l')
 |mark {b g:Nat} {l:List (FuncId×List AV×List AV)} {l':List Deferred} (h:m[b]? =some (some (g,0,0))) (r:RelD m l l'):RelD m ((0,[],[.mrk b])::l) ({target:=.collected g,args:= #[]}::l')
theorem RelD.mono{m m':Map}(hm:Map.le m m'){l:List (FuncId×List AV×List AV)}{l':List Deferred}(h:RelD m l l'):RelD m' l l':=by
 induction h with
 |nil=>exact .nil
 |cons h k _ ih=>exact .cons (h.mono hm) (k.mono hm) ih
 |mark h _ ih=>exact .mark (hm _ _ h) ih
theorem RelD.append{l k:List (FuncId×List AV×List AV)}{l' k':List Deferred}(h:RelD m l l')(g:RelD m k k'):RelD m (l++k) (l'++k'):=by
 induction h with
 |nil=>exact g
 |cons h k _ ih=>exact .cons h k ih
 |mark h _ ih=>exact .mark h ih
def Slot(m:Map)(a:AAct)(act:Act)(t:Nat):Prop:=∀v,a.tmps.get t=some v→∃v',act.tmps[t]? =some v'∧Rel m v v'
structure RelAct (m:Map) (N:Nat) (a:AAct) (act:Act):Prop where
 size:act.tmps.size=N
 tmps:∀t,Slot m a act t
 defers:RelD m a.defers act.defers
theorem Slot.mono{m m':Map}(hm:Map.le m m'){a:AAct}{act:Act}{t:Nat}(h:Slot m a act t):Slot m' a act t:=fun v hv=>by
 obtain⟨v',h1,h2⟩:=h v hv;exact⟨v',h1,h2.mono hm⟩
theorem RelAct.mono{m m':Map}(hm:Map.le m m'){N:Nat}{a:AAct}{act:Act}(h:RelAct m N a act):RelAct m' N a act:=⟨h.size,fun t=>(h.tmps t).mono hm,h.defers.mono hm⟩
theorem z19d{a:AAct}{act:Act}{x:Operand}(hs:∀t,x=.tmp t→Slot m a act t):∀v,a.eval x=some v→Rel m v (act.eval x):=by
 intro v hv
 cases x with
 |tmp t=>
  obtain⟨v',h1,h2⟩:=hs t rfl v hv;simp only[Act.eval,Array.getD_eq_getD_getElem?,h1,Option.getD_some];exact h2
 |const c=>exact z21e m c v hv
 |global g=>
  simp only[AAct.eval,Option.some.injEq] at hv;subst hv;exact .gptr g 0
 |func f=>
  simp only[AAct.eval,Option.some.injEq] at hv;subst hv;exact .fn .nil .nil
theorem z221{t:Nat}:∀{l:List Operand},Operand.tmp t∈l→t∈z297 l
 |x::l,h=>by
  rcases List.mem_cons.1 h with rfl|h
  ·simp[z297]
  ·have := z221 h
   cases x<;>simp[z297,this]
theorem z3f5{v:AV}{b:Bool}(h:Rel m v (.bool b)):v=.bool b:=by cases h;rfl
theorem z178{ops:Array Oper}{a:AAct}{act:Act}{o:Oper}{b:Bool}(hs:∀t∈z1cc ops o.guard,Slot m a act t)(h:z41 ops a.tmps.get o.guard=some b):Region.wanted o (yielded ops act.tmps)=b:=by
 unfold z41 at h;unfold Region.wanted
 split at h
 ·rename_i hg
  rw[hg]
  simpa using h
 ·rename_i j want hg
  rw[hg] at hs ⊢;simp only[yielded]
  split at h
  ·rename_i o' ho'
   split at h
   ·rename_i d hd
    have hdst:z19e ops j=some d:=by simp[z19e,ho',hd]
    have hslot:=hs d (by simp[z1cc,hdst])
    split at h
    ·rename_i b' hb'
     obtain⟨v',h1,h2⟩:=hslot _ hb';have:=zb1 h2;subst this;simp only[Option.some.injEq] at h
     simp[ho',hd,h1, ←h]
    ·rename_i v hnb hv
     obtain⟨v',h1,h2⟩:=hslot _ hv;simp only[Option.some.injEq] at h;subst h;simp only[ho',Option.bind_some,hd,h1]
     split
     ·rename_i b' e
      cases e
      exact absurd (z3f5 h2) (hnb b')
     ·rfl
    ·cases h
   ·rename_i hd
    simp only[Option.some.injEq] at h;subst h
    simp[ho',hd]
  ·rename_i ho'
   simp only[Option.some.injEq] at h;subst h
   simp[ho']
def RetOK(w0:Base)(m:Map)(h':AHeap)(r:ARes)(e:Ending)(w':World):Prop:=∃m',Ext m m'∧Fits w0 m' h' w'∧match r with
 | .ret v=>∃v',e=.returned v'∧Rel m' v v'
 | .panic v=>∃v',e=.panicked [{v:=v',recovered:=false}]∧Rel m' v v'
def ze2(P:Program)(w0:Base)(call:z10):Prop:=∀(f:FuncId) (args:List AV) (h:AHeap) (r:ARes) (h':AHeap),call f args h=some (r,h')→
 ∀(m:Map) (w:World) (args':List Value),RelL m args args'→Fits w0 m h w→Calls P f ⟨args'⟩ w (RetOK w0 m h' r)
theorem z49d{call:z10}(hc:ze2 P w0 call){a:AAct}{act:Act}{o:Oper}{st:AStep}{r:Result Next}{K:Act→World→Prop}{Q:Exit→Act→World→Prop}(hp:z237 w0 m H' nx r)(h:ze7 call a o.dst (some (nx,H'))=some st)(hgo : ∀ (a' : AAct) (h' : AHeap), st = .go a' h' → ∀ (m' : Map) (w' : World) (v : AV) (v' : Value) (ds : List (FuncId × List AV × List AV)) (ds' : List Deferred), Ext m m' → Fits w0 m' h' w' → Rel m' v v' → a' = (⟨a.tmps, ds ++ a.defers⟩ : AAct).put o.dst v → RelD m' ds ds' →
   K (({act with defers:=ds'++act.defers}:Act).put o.dst v') w')(hpn:∀(v:AV) (h':AHeap),st=.panic v h'→∀(m':Map) (w':World) (v':Value),Ext m m'→Fits w0 m' h' w'→Rel m' v v'→Q (.panic [{v:=v',recovered:=false}]) act w'):
  o.upon P act K Q r:=by
 obtain⟨m',w',he,F,ho⟩:=hp;unfold ze7 at h
 split at h
 ·rename_i e
  cases e
  obtain⟨v',rfl,hv⟩:=ho;simp only[z39,Option.some.injEq] at h;exact hgo _ _ h.symm m' w' _ v' [] [] he F hv rfl .nil
 ·rename_i e
  cases e
  simp only[z462] at ho;subst ho;simp only[z39,Option.some.injEq] at h;exact hgo _ _ h.symm m' w' _ _ [] [] he F (.tup .nil) rfl .nil
 ·rename_i f args h1 e
  cases e
  obtain⟨args',rfl,hr⟩:=ho;unfold z155 at h
  split at h
  ·rename_i v h2 hcall
   refine Calls.mono (hc _ _ _ _ _ hcall m' w' args' hr F) ?_
   rintro e w'' ⟨m'',he2,F2,v',rfl,hv⟩
   simp only[z39,Option.some.injEq] at h;exact hgo _ _ h.symm m'' w'' _ v' [] [] (he.trans he2) F2 hv rfl .nil
  ·rename_i v h2 hcall
   refine Calls.mono (hc _ _ _ _ _ hcall m' w' args' hr F) ?_
   rintro e w'' ⟨m'',he2,F2,v',rfl,hv⟩
   simp only[Option.some.injEq] at h;exact hpn _ _ h.symm m'' w'' v' (he.trans he2) F2 hv
  ·cases h
 ·rename_i v h1 e
  cases e
  obtain⟨v',rfl,hv⟩:=ho;simp only[Option.some.injEq] at h;exact hpn _ _ h.symm m' w' v' he F hv
 ·rename_i f args cap h1 e
  cases e
  obtain⟨args',cap',rfl,hr,hr2⟩:=ho;simp only[z39,Option.some.injEq] at h;exact hgo _ _ h.symm m' w' _ _ [(f,args,cap)] [_] he F (.tup .nil) rfl (.cons hr hr2 .nil)
 ·cases h
 ·cases h
theorem z34f{a:AAct}{act:Act}{d:Option Tmp}{v:AV}{v':Value}{N:Nat}(hN:act.tmps.size=N)(hd:∀t,d=some t→t<N)(hv:Rel m v v'){t:Nat}(h:d≠some t→Slot m a act t):Slot m (a.put d v) (act.put d v') t:=by
 intro u hu
 cases d with
 |none=>exact h (by simp) u hu
 |some s=>
  by_cases e:s=t
  ·subst e
   simp only[AAct.put,y15,Option.some.injEq] at hu;subst hu;have:=hd s rfl;exact⟨v',by simp[Act.put,hN,this],hv⟩
  ·simp only [AAct.put, y17 _ _ e] at hu
   obtain⟨v2,h1,h2⟩:=h (by simp;exact e) u hu;exact⟨v2,by simp only[Act.put];rw[Array.getElem?_setIfInBounds_ne e];exact h1,h2⟩
theorem z350{act:Act}(d:Option Tmp)(v:Value):(act.put d v).tmps.size=act.tmps.size:=by cases d<;>simp[Act.put]
theorem z1f6(a:AAct)(d:Option Tmp)(v:AV):(a.put d v).defers=a.defers:=by cases d<;>rfl
theorem z1f5(a:Act)(d:Option Tmp)(v:Value):(a.put d v).defers=a.defers:=by cases d<;>rfl
theorem RelAct.put{N:Nat}{a:AAct}{act:Act}(h:RelAct m N a act){d:Option Tmp}(hd:∀t,d=some t→t<N){v:AV}{v':Value}(hv:Rel m v v'){ds:List (FuncId×List AV×List AV)}{ds':List Deferred}(hds:RelD m ds ds'):
  RelAct m N ((⟨a.tmps,ds++a.defers⟩:AAct).put d v) (({act with defers:=ds'++act.defers}:Act).put d v') where
 size:=by rw[z350];exact h.size
 tmps t:=z34f (a:=⟨a.tmps,ds++a.defers⟩) (act:={act with defers:=ds'++act.defers}) h.size hd hv (fun _=>h.tmps t)
 defers:=by rw[z1f6,z1f5];exact hds.append h.defers
inductive RelExit (m:Map):AExit→Exit→Prop
 |normal:RelExit m .normal .normal
 |exit (id:Nat):RelExit m (.exit id) (.exit id)
 |goto (l:Nat):RelExit m (.goto l) (.goto l)
 |ret:RelExit m .ret .ret
 |panic {v:AV} {v':Value} (h:Rel m v v'):RelExit m (.panic v) (.panic [{v:=v',recovered:=false}])
def z494(w0:Base)(m:Map)(N:Nat)(e:AExit)(a:AAct)(h:AHeap)(e':Exit)(act:Act)(w:World):Prop:=∃m',Ext m m'∧RelAct m' N a act∧Fits w0 m' h w∧RelExit m' e e'
theorem z29d{call:z10}(hc:ze2 P w0 call){N:Nat}{ops:Array Oper}{o:Oper}{a:AAct}{act:Act}{st:AStep}{K:Act→World→Prop}{Q:Exit→Act→World→Prop}(ha:RelAct m N a act)(F:Fits w0 m H w)(hd:z139 N o=true)(h:z136 P call ops o a H=some st)(hgo:∀(a':AAct) (h':AHeap),st=.go a' h'→∀(m':Map) (act':Act) (w':World),Ext m m'→RelAct m' N a' act'→Fits w0 m' h' w'→K act' w')(hpn:∀(v:AV) (h':AHeap),st=.panic v h'→∀(m':Map) (w':World) (v':Value),Ext m m'→Fits w0 m' h' w'→Rel m' v v'→Q (.panic [{v:=v',recovered:=false}]) act w'):
  if Region.wanted o (yielded ops act.tmps) then o.wp P act w K Q∨(o.asks P act w∧LetsOut Q) else K (act.put o.dst undef) w:=by
 have hd':∀t,o.dst=some t→t<N:=by
  intro t ht;simp only[z139,ht] at hd;exact Nat.le_of_ble_eq_true hd
 unfold z136 at h
 split at h
 ·rename_i hw
  rw[z178 (fun t _=>ha.tmps t) hw];simp only[if_true];cases hop:opA P a.eval o H with
  |none=>rw[hop] at h;cases h
  |some p=>
   obtain⟨nx,H1⟩:=p;rw[hop] at h;refine .inl (z49d hc (z436 F o (fun x _ v hv=>z19d (fun t _=>ha.tmps t) v hv) hop) h ?_ hpn);intro a' h' e m' w' v v' ds ds' he F' hv e2 hds;subst e2;exact hgo _ h' e m' _ w' he ((ha.mono he.le).put hd' hv hds) F'
 ·rename_i hw
  rw[z178 (fun t _=>ha.tmps t) hw];simp only[Bool.false_eq_true,if_false];simp only[z39,Option.some.injEq] at h;exact hgo _ _ h.symm m _ w (Ext.refl m) (ha.put hd' (v:=.tup []) (v':=undef) (.tup .nil) .nil) F
 ·cases h
theorem z3b3{N:Nat}:∀(l:List Oper),z3fb N l=true→∀o∈l,z139 N o=true:=by
 intro l
 induction l with
 |nil=>intro _ o ho;simp at ho
 |cons x l ih=>
  intro h o ho;rw[z3fb,Bool.and_eq_true] at h
  rcases List.mem_cons.1 ho with rfl|ho
  ·exact h.1
  ·exact ih h.2 o ho
end
end
noncomputable section
section
variable {P:Program}{m:Map}{w0:Base}{w:World}{H H':AHeap}{nx:ANext}
def FreeOut(f:AHeap→z8a)(H:AHeap)(nx:ANext)(H':AHeap):Prop:=∃v,nx=.val v∧H'=H∧∀h2,f h2=some (.val v,h2)
theorem zdc{x:Option AV}(h:z1a5 H x=some (nx,H')):FreeOut (fun h=>z1a5 h x) H nx H':=by
 unfold z1a5 at h
 split at h
 ·simp only [Option.some.injEq, Prod.mk.injEq] at h
  obtain⟨rfl,rfl⟩:=h;exact⟨_,rfl,rfl,fun h2=>rfl⟩
 ·cases h
theorem z3e{v:AV}(h:some (ANext.val v,H)=some (nx,H')):FreeOut (fun h=>some (.val v,h)) H nx H':=by
 simp only[Option.some.injEq,Prod.mk.injEq] at h;obtain⟨rfl,rfl⟩:=h;exact⟨_,rfl,rfl,fun h2=>rfl⟩
theorem FreeOut.eq{f g:AHeap→z8a}(hf:FreeOut f H nx H')(h:∀h2,g h2=f h2):FreeOut g H nx H':=by
 obtain⟨v,h1,h2,h3⟩:=hf;exact⟨v,h1,h2,fun k=>(h k).trans (h3 k)⟩
theorem free_pick{c a b:Option AV}(h:z3b1 H c a b=some (nx,H')):FreeOut (fun h=>z3b1 h c a b) H nx H':=by
 unfold z3b1 at h
 split at h
 ·exact zdc h
 ·exact zdc h
 ·cases h
theorem z445{x:Option (List AV)}(h:z1e4 H x=some (nx,H')):FreeOut (fun h=>z1e4 h x) H nx H':=by
 unfold z1e4 at h
 split at h
 ·exact z3e h
 ·cases h
theorem z480{ρ:z1be}{t:TypeId}{ps:Array (Nat×Operand)}(h:z196 P ρ H t ps=some (nx,H')):FreeOut (fun h=>z196 P ρ h t ps) H nx H':=by
 unfold z196 at h
 split at h
 ·rename_i z q hz hq
  split at h
  ·rename_i fs hu
   split at h
   ·rename_i hc
    exact(z445 h).eq (fun h2=>by simp only[z196,hz,hq,hu,hc,if_true])
   ·cases h
  ·rename_i n e hu
   split at h
   ·rename_i hc
    exact(z445 h).eq (fun h2=>by simp only[z196,hz,hq,hu,hc,if_true])
   ·cases h
  ·cases h
 ·cases h
theorem free_nil{x:Option AV}(h:z3b2 H x=some (nx,H')):FreeOut (fun h=>z3b2 h x) H nx H':=by
 unfold z3b2 at h
 split at h
 ·exact z3e h
 ·exact z3e h
 ·exact z3e h
 ·exact z3e h
 ·cases h
theorem free_bin{op:BinOp}{t:TypeId}{l:Bool}{x y:Option AV}(h:z75 P H op t l x y=some (nx,H')):FreeOut (fun h=>z75 P h op t l x y) H nx H':=by
 unfold z75 at h
 split at h
 ·exact zdc h
 ·cases h
theorem z491{t:TypeId}{l:Bool}(hk:l=true∨∀e,P.underlying t≠some (.pointer e))(h2:AHeap)(x y:AV):(!l&&z1a2 P h2 t x y)=false:=by
 rcases hk with rfl|hk
 ·rfl
 ·have hb : z433 P t = false := by
   unfold z433
   split
   ·rename_i e hu;exact absurd hu (hk e)
   ·rfl
  have ha:z1a2 P h2 t x y=false:=by
   unfold z1a2
   split
   ·rw[hb];simp
   ·rfl
  rw[ha,Bool.and_false]
theorem free_binV{op:BinOp}{t:TypeId}{l:Bool}{x y:Option AV}(hk:l=true∨∀e,P.underlying t≠some (.pointer e))(h:z21c P H op t l x y=some (nx,H')):FreeOut (fun h=>z21c P h op t l x y) H nx H':=by
 cases x with
 |none=>cases h
 |some x=>cases y with
  |none=>cases h
  |some y=>
   have he:∀h2,z21c P h2 op t l (some x) (some y)=z75 P h2 op t l (some x) (some y):=fun h2=>by
    simp only[z21c,z491 hk h2 x y]
   rw[he] at h;exact(free_bin h).eq he
theorem free_un{op:UnOp}{x:Option AV}(h:opUn H op x=some (nx,H')):FreeOut (fun h=>opUn h op x) H nx H':=by
 unfold opUn at h
 split at h
 ·split at h
  ·exact z3e h
  ·exact z3e h
  ·cases h
 ·split at h
  ·exact z3e h
  ·cases h
 ·cases h
theorem free_conv{s d:TypeId}{x:Option AV}(hs:∀e,P.underlying s≠some (.slice e))(hd:∀e,P.underlying d≠some (.slice e))(hs2:P.underlying s≠some .unsafePointer)(hd2:P.underlying d≠some .unsafePointer)(h:z7b P H s d x=some (nx,H')):FreeOut (fun h=>z7b P h s d x) H nx H':=by
 have hb:∀cs,ze0 P H s d cs=some (nx,H')→False:=by
  intro cs hh;unfold ze0 at hh
  split at hh
  ·rename_i e h1 h2;exact hs e h2
  ·cases hh
 unfold z7b at h
 split at h
 ·unfold z261 at h
  split at h
  ·split at h
   ·rename_i h1 _ _;exact absurd h1 hd2
   ·cases h
  ·rename_i h1;exact absurd h1 hs2
  ·cases h
 ·split at h
  ·rename_i h1 h2
   exact(z3e h).eq (fun q=>by simp only[z7b,h1,h2])
  ·cases h
 ·split at h
  ·rename_i h1
   unfold z36c at h
   split at h
   ·rename_i h2
    exact(z3e h).eq (fun q=>by simp only[z7b,z36c,h1,h2])
   ·rename_i e h2;exact absurd h2 (hd e)
   ·cases h
  ·cases h
 ·split at h
  ·exact(hb _ h).elim
  ·cases h
 ·exact(hb _ h).elim
 ·exact(hb _ h).elim
 ·cases h
theorem z47e{t:TypeId}{x:Option AV}(h:z1f9 P H t x=some (nx,H')):FreeOut (fun h=>z1f9 P h t x) H nx H':=by
 unfold z1f9 at h
 split at h
 ·split at h
  ·rename_i hc
   exact(z3e h).eq (fun q=>by simp only[z1f9,hc,if_true])
  ·cases h
 ·cases h
theorem z360{ρ:z1be}{fn:Fn}{a b:Array Operand}(h:zf3 ρ H fn a b=some (nx,H')):FreeOut (fun h=>zf3 ρ h fn a b) H nx H':=by
 unfold zf3 at h
 split at h
 ·split at h
  ·rename_i x y hx hy
   exact(z3e h).eq (fun q=>by simp only[zf3,hx,hy])
  ·cases h
 ·cases h
theorem z47c{ρ:z1be}{t:TypeId}{x:Operand}{lo hi mx:Option Operand}(hna:∀n e,P.underlying t≠some (.array n e))(h:z192 P ρ H t x lo hi mx=some (nx,H')):FreeOut (fun h=>z192 P ρ h t x lo hi mx) H nx H':=by
 unfold z192 at h
 split at h
 ·split at h
  ·rename_i q xv a b c hx ha hb hc
   refine FreeOut.eq (f:=fun h=>z248 P h t xv a b c) ?_ (fun q=>by simp only[z192,hx,ha,hb,hc]);unfold z248 at h
   split at h
   ·cases h
   ·split at h
    ·cases h
    ·split at h
     ·unfold z210 at h
      split at h
      ·rename_i l r k hl hr hk
       split at h
       ·rename_i e he
        split at h
        ·rename_i hcond
         refine(z3e h).eq (fun q=>?_);simp only[z248,z210,hl,hr,hk,he];rw[if_pos hcond]
        ·cases h
       ·cases h
      ·cases h
     ·cases h
  ·cases h
 ·split at h
  ·rename_i a b c ha hb hc
   refine FreeOut.eq (f:=fun h=>z90 P h t a b c) ?_ (fun q=>by simp only[z192,ha,hb,hc]);unfold z90 at h
   split at h
   ·split at h
    ·rename_i n e hu;exact absurd hu (hna n e)
    ·cases h
   ·unfold z20f at h
    split at h
    ·rename_i l r hl hr
     split at h
     ·rename_i hu
      split at h
      ·rename_i hcond
       exact(z3e h).eq (fun q=>by simp only[z90,z20f,hl,hr,hu,hcond,and_self,if_true])
      ·cases h
     ·cases h
    ·cases h
   ·unfold z18f at h
    split at h
    ·rename_i l r hl hr
     split at h
     ·rename_i e he
      split at h
      ·rename_i hcond
       refine(z3e h).eq (fun q=>?_);simp only[z90,z18f,hl,hr,he];rw[if_pos hcond]
      ·cases h
     ·cases h
    ·cases h
   ·unfold z16b at h
    split at h
    ·rename_i hl hr
     split at h
     ·rename_i e he
      split at h
      ·rename_i hcond
       exact(z3e h).eq (fun q=>by simp only[z90,z16b,hl,hr,he,hcond,if_true])
      ·cases h
     ·cases h
    ·cases h
   ·unfold z16b at h
    split at h
    ·rename_i hl hr
     split at h
     ·rename_i e he
      split at h
      ·rename_i hcond
       exact(z3e h).eq (fun q=>by simp only[z90,z16b,hl,hr,he,hcond,if_true])
      ·cases h
     ·cases h
    ·cases h
   ·cases h
  ·cases h
theorem z2f6{s:TypeId}{f:Nat}{x:Option AV}(h:z6d P H s f x=some (nx,H')):FreeOut (fun h=>z6d P h s f x) H nx H':=by
 unfold z6d at h
 split at h
 ·split at h
  ·rename_i hu
   split at h
   ·rename_i hf
    split at h
    ·rename_i hc
     exact(z3e h).eq (fun q=>by simp only[z6d,hu,hf,hc,if_true])
    ·cases h
   ·cases h
  ·cases h
 ·split at h
  ·rename_i hu
   split at h
   ·rename_i hf
    split at h
    ·rename_i hc
     exact(z3e h).eq (fun q=>by simp only[z6d,hu,hf,hc,if_true])
    ·cases h
   ·cases h
  ·cases h
 ·cases h
theorem z47f{t:TypeId}{f:Nat}{x:Option AV}(h:z195 P H t f x=some (nx,H')):FreeOut (fun h=>z195 P h t f x) H nx H':=by
 unfold z195 at h
 split at h
 ·split at h
  ·rename_i hu
   split at h
   ·rename_i hf
    exact(zdc h).eq (fun q=>by simp only[z195,hu,hf])
   ·cases h
  ·cases h
 ·cases h
theorem z2f5{t:TypeId}{x y:Option AV}(h:z4c P H t x y=some (nx,H')):FreeOut (fun h=>z4c P h t x y) H nx H':=by
 unfold z4c at h
 split at h
 ·split at h
  ·rename_i hu
   split at h
   ·rename_i hc
    refine(z3e h).eq (fun q=>?_);simp only[z4c,hu];rw[if_pos hc]
   ·cases h
  ·cases h
 ·split at h
  ·rename_i hu
   split at h
   ·rename_i hc
    refine(z3e h).eq (fun q=>?_);simp only[z4c,hu];rw[if_pos hc]
   ·cases h
  ·cases h
 ·split at h
  ·rename_i hu
   split at h
   ·rename_i hc
    refine(z3e h).eq (fun q=>?_);simp only[z4c,hu];rw[if_pos hc]
   ·cases h
  ·cases h
 ·cases h
theorem z47d{t:TypeId}{x y:Option AV}(h:z160 P H t x y=some (nx,H')):FreeOut (fun h=>z160 P h t x y) H nx H':=by
 unfold z160 at h
 split at h
 ·split at h
  ·rename_i hu
   split at h
   ·rename_i hc
    refine(zdc h).eq (fun q=>?_);simp only[z160,hu];rw[if_pos hc]
   ·cases h
  ·cases h
 ·split at h
  ·rename_i hu
   split at h
   ·rename_i hc
    refine(z3e h).eq (fun q=>?_);simp only[z160,hu];rw[if_pos hc]
   ·cases h
  ·cases h
 ·cases h
theorem z409{t:TypeId}{ok:Bool}{x:Option AV}(h:z197 P H t ok x=some (nx,H')):FreeOut (fun h=>z197 P h t ok x) H nx H':=by
 unfold z197 at h
 split at h
 ·split at h
  ·rename_i hc
   unfold z1d0 at h
   split at h
   ·rename_i he
    refine(z3e h).eq (fun q=>?_);simp only[z197,z1d0,hc,if_true];rw[if_pos he]
   ·cases h
  ·cases h
 ·cases h
theorem z3c7{i:Nat}{x:Option AV}(h:z95 H i x=some (nx,H')):FreeOut (fun h=>z95 h i x) H nx H':=by
 unfold z95 at h
 split at h
 ·exact zdc h
 ·cases h
theorem free_len{t:TypeId}{x:AV}(hm:∀k e,P.underlying t≠some (.map k e))(h:z21b P H t x=some (nx,H')):FreeOut (fun h=>z21b P h t x) H nx H':=by
 unfold z21b at h
 split at h
 ·rename_i hu
  exact(z3e h).eq (fun q=>by simp only[z21b,hu])
 ·rename_i hu
  split at h
  ·exact(z3e h).eq (fun q=>by simp only[z21b,hu])
  ·cases h
 ·rename_i hu
  split at h
  ·exact(z3e h).eq (fun q=>by simp only[z21b,hu])
  ·exact(z3e h).eq (fun q=>by simp only[z21b,hu])
  ·exact(z3e h).eq (fun q=>by simp only[z21b,hu])
  ·cases h
 ·rename_i k e hu;exact absurd hu (hm k e)
 ·cases h
theorem free_call{ρ:z1be}{c:Call}(hk:z7e P (.call c)=0)(h:z266 P ρ H c=some (nx,H')):FreeOut (fun h=>z266 P ρ h c) H nx H':=by
 unfold z266 at h
 split at h
 ·rename_i args ha
  obtain⟨callee,cargs,ts⟩:=c;simp only[z7e] at hk ha h
  cases callee with
  |invoke r n=>simp at h
  |value f=>simp at hk
  |builtin b=>
   simp only at h hk
   refine FreeOut.eq (f:=fun h=>z10f P b ts args h) ?_ (fun q=>by simp only[z266,ha])
   cases b<;>simp only at hk<;>try (cases hk;done)
   case len=>
    simp only[z10f] at h
    split at h
    ·rename_i x t l hts
     have h0:ts[0]? =some t:=by rw[←Array.getElem?_toList,hts];rfl
     refine FreeOut.eq (free_len (fun k e hu=>?_) h) (fun q=>by simp only[z10f,hts]);rw[h0] at hk
     simp[hu] at hk
    ·cases h
   case max=>
    simp only[z10f] at h
    split at h
    ·exact zdc h
    ·cases h
   case min=>
    simp only[z10f] at h
    split at h
    ·exact zdc h
    ·cases h
 ·cases h
theorem kind0{ρ:z1be}{o:Oper}(hk:z7e P o.op=0)(h:opA P ρ o H=some (nx,H')):FreeOut (fun h=>opA P ρ o h) H nx H':=by
 obtain⟨dst,op,ty,pos,after,guard⟩:=o;unfold opA z251 at h ⊢
 simp only at h hk ⊢
 cases op
 case move x=>exact zdc h
 case assign x=>exact zdc h
 case pick c a b=>exact free_pick h
 case build t ps=>exact z480 h
 case nilCheck x=>exact free_nil h
 case binOp op t x y p=>
  refine free_binV ?_ h;simp only[z7e] at hk
  split at hk
  ·rename_i hl;exact .inl hl
  ·split at hk
   ·cases hk
   ·rename_i hu;exact .inr fun e he=>hu e he
 case unOp op t x=>exact free_un h
 case convert s d x=>
  simp only[z7e] at hk;refine free_conv (fun e hu=>?_) (fun e hu=>?_) (fun hu=>?_) (fun hu=>?_) h
  ·rw[hu] at hk;simp at hk
  ·rw [hu] at hk
   split at hk<;>simp at hk
  ·rw[hu] at hk;simp at hk
  ·rw [hu] at hk
   split at hk<;>simp at hk
 case makeInterface t x=>exact z47e h
 case makeFunc fn a b=>exact z360 h
 case slice t x lo hi mx=>
  refine z47c (fun n e hu=>?_) h;simp only[z7e,hu] at hk;cases hk
 case fieldAddr s x f=>exact z2f6 h
 case field t x f=>exact z47f h
 case indexAddr t x i=>exact z2f5 h
 case index t x i=>exact z47d h
 case typeAssert x u t ok=>exact z409 h
 case extract t i=>exact z3c7 h
 case call c=>exact free_call hk h
 all_goals(simp[z7e] at hk)
theorem kind1{o:Op}(hk:z7e P o=1):z2bd o=true:=by
 cases o
 case load t x=>rfl
 case lookup=>rfl
 case slice=>
  simp only[z7e] at hk
  split at hk<;>cases hk
 case binOp=>
  simp only[z7e] at hk
  split at hk
  ·cases hk
  ·split at hk<;>cases hk
 case convert s d x=>
  simp only[z7e] at hk
  split at hk
  ·cases hk
  ·cases hk
  ·split at hk<;>cases hk
 case call c=>
  simp only[z7e] at hk
  split at hk
  ·split at hk<;>cases hk
  ·cases hk
  ·cases hk
  ·cases hk
 all_goals(simp[z7e] at hk)
theorem z43f{t:TypeId}{x:Option AV}(h:za4 P H t x=some (nx,H')):∃v b o,nx=.val v∧H'=H∧(x=some (.ptr b o)∨x=some (.gptr b o))∧(H.get b).isSome∧∀h2,h2.get b=H.get b→za4 P h2 t x=some (.val v,h2):=by
 unfold za4 at h
 split at h
 ·rename_i b o
  have hget:∀n l,z44 H b o n=some l→(H.get b).isSome=true:=by
   intro n l hl;unfold z44 at hl
   split at hl
   ·rename_i hb;rw[hb];rfl
   ·rename_i hb;rw[hb];rfl
   ·rename_i hb;rw[hb];rfl
   ·cases hl
  have hcell:∀v,z9e H b o=some v→(H.get b).isSome=true:=by
   intro v hl;unfold z9e at hl
   split at hl
   ·rename_i hb;rw[hb];rfl
   ·rename_i hb;rw[hb];rfl
   ·rename_i hb;rw[hb];rfl
   ·cases hl
  split at h
  ·rename_i ha
   split at h
   ·rename_i l hl
    simp only[Option.some.injEq,Prod.mk.injEq] at h;obtain⟨rfl,rfl⟩:=h;refine⟨_,b,o,rfl,rfl,.inl rfl,hget _ _ hl,fun h2 e=>?_⟩;have:z44 h2 b o (P.cellsOf t)=z44 H b o (P.cellsOf t):=by simp only[z44,e]
    simp only[za4,ha,this,hl]
   ·cases h
  ·rename_i ha
   unfold z1a5 at h
   split at h
   ·rename_i v hv
    simp only[Option.some.injEq,Prod.mk.injEq] at h;obtain⟨rfl,rfl⟩:=h;refine⟨_,b,o,rfl,rfl,.inl rfl,hcell _ hv,fun h2 e=>?_⟩;have:z9e h2 b o=z9e H b o:=by simp only[z9e,e]
    simp only[za4,ha,this,hv,z1a5]
   ·cases h
  ·cases h
 ·rename_i b o
  have hget:∀n l,z44 H b o n=some l→(H.get b).isSome=true:=by
   intro n l hl;unfold z44 at hl
   split at hl
   ·rename_i hb;rw[hb];rfl
   ·rename_i hb;rw[hb];rfl
   ·rename_i hb;rw[hb];rfl
   ·cases hl
  have hcell:∀v,z9e H b o=some v→(H.get b).isSome=true:=by
   intro v hl;unfold z9e at hl
   split at hl
   ·rename_i hb;rw[hb];rfl
   ·rename_i hb;rw[hb];rfl
   ·rename_i hb;rw[hb];rfl
   ·cases hl
  split at h
  case h_2=>cases h
  rename_i tg hgl
  split at h
  ·rename_i ha
   split at h
   ·rename_i l hl
    simp only[Option.some.injEq,Prod.mk.injEq] at h;obtain⟨rfl,rfl⟩:=h;refine⟨_,b,o,rfl,rfl,.inr rfl,hget _ _ hl,fun h2 e=>?_⟩;have:z44 h2 b o (P.cellsOf t)=z44 H b o (P.cellsOf t):=by simp only[z44,e]
    simp only[za4,e,hgl,ha,this,hl]
   ·cases h
  ·rename_i ha
   unfold z1a5 at h
   split at h
   ·rename_i v hv
    simp only[Option.some.injEq,Prod.mk.injEq] at h;obtain⟨rfl,rfl⟩:=h;refine⟨_,b,o,rfl,rfl,.inr rfl,hcell _ hv,fun h2 e=>?_⟩;have:z9e h2 b o=z9e H b o:=by simp only[z9e,e]
    simp only[za4,e,hgl,ha,this,hv,z1a5]
   ·cases h
  ·cases h
 ·cases h
theorem z34d{ρ:z1be}{o:Oper}(hr:z2bd o.op=true)(h:opA P ρ o H=some (nx,H')):∃v,nx=.val v∧H'=H∧∀h2,(∀b,(H.get b).isSome=true→h2.get b=H.get b)→opA P ρ o h2=some (.val v,h2):=by
 obtain⟨dst,op,ty,pos,after,guard⟩:=o
 cases op<;>try (simp[z2bd] at hr;done)
 case load t x=>
  change za4 P H t _=_ at h
  obtain⟨v,b,off,e1,e2,_,h3,h4⟩:=z43f h;exact⟨v,e1,e2,fun h2 hh=>h4 h2 (hh b h3)⟩
 case lookup t x y ok=>
  change z194 P H t ok (ρ x) (ρ y)=_ at h
  have hout:∀et r,z1fc P H et ok r=some (nx,H')→∃v,nx=.val v∧H'=H∧∀h2,z1fc P h2 et ok r=some (.val v,h2):=by
   intro et r hl;unfold z1fc at hl
   split at hl
   ·simp only [Option.some.injEq, Prod.mk.injEq] at hl
    obtain⟨rfl,rfl⟩:=hl;exact⟨_,rfl,rfl,fun h2=>rfl⟩
   ·split at hl
    ·rename_i z hz
     simp only[Option.some.injEq,Prod.mk.injEq] at hl;obtain⟨rfl,rfl⟩:=hl;exact⟨_,rfl,rfl,fun h2=>by simp only[z1fc,hz]⟩
    ·cases hl
   ·cases hl
  unfold z194 at h
  split at h
  ·rename_i a k hx hy
   split at h
   ·rename_i kt et hu
    split at h
    ·rename_i hkt
     split at h
     ·rename_i es hes
      obtain⟨v,e1,e2,e3⟩:=hout _ _ h;refine⟨v,e1,e2,fun h2 hh=>?_⟩
      have hm:z223 h2 a=some es:=by
       unfold z223 at hes ⊢
       split at hes
       ·exact hes
       ·rename_i b
        split at hes
        ·rename_i es' hb
         rw[hh b (by rw[hb];rfl),hb];exact hes
        ·cases hes
       ·cases hes
      change z194 P h2 t ok (ρ x) (ρ y)=_
      simp only[z194,hx,hy,hu,hkt,if_true,hm,e3]
     ·cases h
    ·cases h
   ·cases h
  ·cases h
theorem kind2{o:Op}(hk:z7e P o=2):(∃e,o=.alloc e)∨∃e x,o=.box e x:=by
 cases o
 case alloc e=>exact .inl ⟨e,rfl⟩
 case box e x=>exact .inr ⟨e,x,rfl⟩
 case slice=>
  simp only[z7e] at hk
  split at hk<;>cases hk
 case binOp=>
  simp only[z7e] at hk
  split at hk
  ·cases hk
  ·split at hk<;>cases hk
 case convert s d x=>
  simp only[z7e] at hk
  split at hk
  ·cases hk
  ·cases hk
  ·split at hk<;>cases hk
 case call c=>
  simp only[z7e] at hk
  split at hk
  ·split at hk<;>cases hk
  ·cases hk
  ·cases hk
  ·cases hk
 all_goals(simp[z7e] at hk)
theorem box_out{e:TypeId}{z:Option AV}(h:zd9 H e z=some (nx,H')):∃x,z=some x∧x.cells.all AV.one=true∧nx=.val (.ptr H.next 0)∧H'=H.new (zb0 x.cells e)∧∀h2,zd9 h2 e z=some (.val (.ptr h2.next 0),h2.new (zb0 x.cells e)):=by
 unfold zd9 at h
 split at h
 ·rename_i x
  unfold z30d at h
  split at h
  ·rename_i hc
   simp only[Option.some.injEq,Prod.mk.injEq] at h;obtain⟨rfl,rfl⟩:=h;exact⟨x,rfl,hc,rfl,rfl,fun h2=>by simp only[zd9,z30d,hc,if_true]⟩
  ·cases h
 ·cases h
theorem z1b6{ρ ρ2:z1be}:∀(l:List (Nat×Operand)),(∀x∈l.map (·.2),ρ x=ρ2 x)→z219 ρ l=z219 ρ2 l
 |[],_=>rfl
 |(i,x)::l,h=>by
  simp only[z219];rw[h x (by simp),z1b6 l (fun y hy=>h y (by simp at hy ⊢;exact .inr hy))]
theorem z168{ρ ρ2:z1be}:∀(l:List Operand),(∀x∈l,ρ x=ρ2 x)→z286 ρ l=z286 ρ2 l
 |[],_=>rfl
 |x::l,h=>by
  simp only[z286];rw[h x (by simp),z168 l (fun y hy=>h y (by simp[hy]))]
theorem z250{ρ ρ2:z1be}{x:Option Operand}(h:∀o,x=some o→ρ o=ρ2 o):z3af ρ x=z3af ρ2 x:=by
 unfold z3af
 split
 ·rfl
 ·rename_i o;rw[h o rfl]
theorem z2b0{ρ ρ2:z1be}(o:Oper)(h:∀x∈o.op.operands.toList,ρ x=ρ2 x)(hp:AHeap):opA P ρ o hp=opA P ρ2 o hp:=by
 obtain⟨dst,op,ty,pos,after,guard⟩:=o;unfold opA z251
 simp only at h ⊢
 cases op
 case build t ps=>simp only[z455,z196];rw[z1b6 ps.toList (fun x hx=>h x (by simpa [Op.operands] using hx))]
 case buildSlice t n ps=>simp only[z22c,z16c];rw[z1b6 ps.toList (fun x hx=>h x (by simpa [Op.operands] using hx))]
 case makeFunc fn a b=>
  simp only[z2cd,zf3];rw[z168 a.toList (fun x hx=>h x (by simp[Op.operands];exact .inl (by simpa using hx))),z168 b.toList (fun x hx=>h x (by simp[Op.operands];exact .inr (by simpa using hx)))]
 case slice t x lo hi mx=>
  simp only[z451,z192];rw[h x (by simp[Op.operands]),z250 (x:=lo) (fun o e=>h o (by simp[Op.operands,e])),z250 (x:=hi) (fun o e=>h o (by simp[Op.operands,e]))]
  cases mx with
  |none=>rfl
  |some q=>
   have e:z3af ρ (some q)=z3af ρ2 (some q):=z250 (fun o e=>by cases e;exact h q (by simp[Op.operands]));simp only[e]
 case call c=>
  simp only[do_call,z266];rw[z168 c.args.toList (fun x hx=>h x (by simp only[Op.operands,Call.operands];simp[hx]))];cases hc:c.callee with
  |value f=>
   have e:=h f (by simp[Op.operands,Call.operands,hc]);simp only[e]
  |builtin b=>rfl
  |invoke r n=>rfl
 case defer c=>
  simp only[z454,z355];rw[z168 c.args.toList (fun x hx=>h x (by simp only[Op.operands,Call.operands];simp[hx]))];cases hc:c.callee with
  |value f=>
   have e:=h f (by simp[Op.operands,Call.operands,hc]);simp only[e]
  |builtin b=>rfl
  |invoke r n=>rfl
 case move x=>simp only[z413];rw[h x (by simp[Op.operands])]
 case assign x=>simp only[z2ce];rw[h x (by simp[Op.operands])]
 case pick c a b=>simp only[z412];rw[h c (by simp[Op.operands]),h a (by simp[Op.operands]),h b (by simp[Op.operands])]
 case box e x=>simp only[do_box];rw[h x (by simp[Op.operands])]
 case insert t m k x=>simp only[z3cf];rw[h m (by simp[Op.operands]),h k (by simp[Op.operands]),h x (by simp[Op.operands])]
 case load t a=>simp only[do_load];rw[h a (by simp[Op.operands])]
 case store t a x=>simp only[z450];rw[h a (by simp[Op.operands]),h x (by simp[Op.operands])]
 case nilCheck x=>simp only[z2cc];rw[h x (by simp[Op.operands])]
 case binOp op t x y p=>simp only[z36b];rw[h x (by simp[Op.operands]),h y (by simp[Op.operands])]
 case unOp op t x=>simp only[do_unOp];rw[h x (by simp[Op.operands])]
 case convert s d x=>simp only[z321];rw[h x (by simp[Op.operands])]
 case makeInterface t x=>simp only[z1a9];rw[h x (by simp[Op.operands])]
 case makeSlice t a b=>simp only[z270];rw[h a (by simp[Op.operands]),h b (by simp[Op.operands])]
 case fieldAddr s x f=>simp only[z272];rw[h x (by simp[Op.operands])]
 case field t x f=>simp only[z453];rw[h x (by simp[Op.operands])]
 case indexAddr t x i=>simp only[z271];rw[h x (by simp[Op.operands]),h i (by simp[Op.operands])]
 case index t x i=>simp only[z452];rw[h x (by simp[Op.operands]),h i (by simp[Op.operands])]
 case lookup t x i ok=>simp only[z3ce];rw[h x (by simp[Op.operands]),h i (by simp[Op.operands])]
 case mapUpdate t m k x=>simp only[z26f];rw[h m (by simp[Op.operands]),h k (by simp[Op.operands]),h x (by simp[Op.operands])]
 case typeAssert x u t ok=>simp only[z22b];rw[h x (by simp[Op.operands])]
 case extract t i=>simp only[z320];rw[h t (by simp[Op.operands])]
 case panic x=>simp only[z36a];rw[h x (by simp[Op.operands])]
 all_goals rfl
mutual
theorem y36:∀(x y:AV),AV.same x y=true→x=y
 | .bool a,y,h=>by cases y<;>simp[AV.same] at h ⊢;exact h
 | .int k a,y,h=>by cases y<;>simp[AV.same] at h ⊢;exact h
 | .str a b,y,h=>by cases y<;>simp[AV.same] at h ⊢;exact h
 | .ptr a b,y,h=>by cases y<;>simp[AV.same] at h ⊢;exact h
 | .nilp,y,h=>by cases y<;>simp[AV.same] at h ⊢
 | .sl a b c d,y,h=>by cases y<;>simp[AV.same] at h ⊢;exact⟨h.1.1.1,h.1.1.2,h.1.2,h.2⟩
 | .nsl,y,h=>by cases y<;>simp[AV.same] at h ⊢
 | .esl,y,h=>by cases y<;>simp[AV.same] at h ⊢
 | .mp a,y,h=>by cases y<;>simp[AV.same] at h ⊢;exact h
 | .nmp,y,h=>by cases y<;>simp[AV.same] at h ⊢
 | .fn f a b,y,h=>by
  cases y<;>simp[AV.same] at h ⊢
  exact⟨h.1.1,y22 _ _ h.1.2,y22 _ _ h.2⟩
 | .nfn,y,h=>by cases y<;>simp[AV.same] at h ⊢
 | .ifc t v,y,h=>by
  cases y<;>simp[AV.same] at h ⊢
  exact⟨h.1,y36 _ _ h.2⟩
 | .nifc,y,h=>by cases y<;>simp[AV.same] at h ⊢
 | .agg a,y,h=>by cases y<;>simp[AV.same] at h ⊢;exact y22 _ _ h
 | .tup a,y,h=>by cases y<;>simp[AV.same] at h ⊢;exact y22 _ _ h
 | .yld a,y,h=>by cases y<;>simp[AV.same] at h ⊢;exact h
 | .mrk a,y,h=>by cases y<;>simp[AV.same] at h ⊢;exact h
 | .gptr a b,y,h=>by cases y<;>simp[AV.same] at h ⊢;exact h
theorem y22:∀(x y:List AV),y1c x y=true→x=y
 |[],y,h=>by cases y<;>simp[y1c] at h ⊢
 |a::l,y,h=>by
  cases y<;>simp[y1c] at h ⊢
  exact⟨y36 _ _ h.1,y22 _ _ h.2⟩
end
theorem z107{i:Nat}:∀{l:List Nat},zbf i l=true↔i∈l
 |[]=>by simp[zbf]
 |j::l=>by simp[zbf,z107 (l:=l)]
theorem z236{f:Nat→Bool}:∀{l:List Nat},allB f l=true↔∀i∈l,f i=true
 |[]=>by simp[allB]
 |j::l=>by simp[allB,z236 (l:=l)]
theorem z429{l k:List Nat}:subB l k=true↔∀i∈l,i∈k:=by
 simp only[subB,z236,z107]
theorem z492{f:Rec→Bool}(l:List Rec)(h:z1aa f l=true):∀r∈l,f r=true:=by
 induction l with
 |nil=>intro r hr;simp at hr
 |cons j l ih=>
  rw[z1aa,Bool.and_eq_true] at h;intro r hr
  rcases List.mem_cons.1 hr with rfl|hr
  ·exact h.1
  ·exact ih h.2 r hr
theorem z3e0{ops:Array Oper}{S:Nat→Prop}(hS:∀i,S i→∀j∈z46 ops i,S j)(n:Nat):∀(i j:Nat),S i→ancOf ops n i j=true→S j:=by
 induction n with
 |zero=>intro i j _ h;simp[ancOf] at h
 |succ n ih=>
  intro i j hi h;simp only[ancOf,Bool.or_eq_true,z107,List.any_eq_true] at h
  rcases h with h|⟨k,hk,h⟩
  ·exact hS i hi j h
  ·exact ih k j (hS i hi k hk) h
end
end
noncomputable section
open Go.RowKit
section
variable {P:Program}{m:Map}{w0:Base}{w:World}{H H':AHeap}{nx:ANext}
theorem Fits.fill(F:Fits w0 m H w){id n:Nat}{t:T AV}{e:TypeId}{l:List AV}{vs:List Value}(hm:m[id]? =some none)(hb:H.get id=some (.row n t e))(hn:n=l.length)(ht:∀i,i<n→t.get i=l[i]?)(hr:RelL m l vs)(hone:l.all AV.one=true):
  Fits w0 (m.set id (some (w.heap.size,0,vs.length))) H (w.alloc (.cells vs.toArray e)):=by
 have Fa:=F.alloc (.cells vs.toArray e);have hle:Map.le m (m.set id (some (w.heap.size,0,vs.length))):=y34 hm _;have hlt:id<m.length:=(List.getElem?_eq_some_iff.1 hm).1;have hl:=hr.length
 have new:∀{q:Nat×Nat×Nat},(m.set id (some (w.heap.size,0,vs.length)))[id]? =some (some q)→q=(w.heap.size,0,vs.length):=by
  intro q h;rw[List.getElem?_set_self hlt] at h
  simpa using h.symm
 have old:∀{b:Nat} {q:Nat×Nat×Nat},id≠b→(m.set id (some (w.heap.size,0,vs.length)))[b]? =some (some q)→m[b]? =some (some q):=by
  intro b q h1 h2;rwa [List.getElem?_set_ne h1] at h2
 exact {
  below := Fa.below
  floor := Fa.floor
  pin := by
   intro k o hk;refine ⟨(Fa.pin k o hk).1, fun b o2 s z h ho hmb => ?_⟩
   by_cases eb : id = b
   ·subst eb
    have := new hmb
    cases this
    have := zc1 (F.pin _ _ hk).1;omega
   ·exact (F.pin k o hk).2 b o2 s z h ho (old eb hmb)
  len := by rw [List.length_set]; exact F.len
  fresh := F.fresh
  wf := F.wf
  row := by
   intro b n' t' e' g s z h hmb
   by_cases eb : id = b
   ·subst eb
    rw [hb] at h; cases h
    obtain ⟨rfl, rfl, rfl⟩ := (by simpa using new hmb : g = w.heap.size ∧ s = 0 ∧ z = vs.length)
    refine ⟨F.size, vs.toArray, (0, 0), heap_alloc_new w _, by simp, by omega, fun i _ => by simp, fun i hi => F.wf _ _ _ _ hb i hi, fun i hi => ?_⟩;have hx : l[i]? = some (l[i]'(by omega)) := List.getElem?_eq_getElem (by omega)
    obtain ⟨y, hy, hxy⟩ := hr.get i _ hx
    exact ⟨_, y, by rw [ht i hi]; exact hx, by simpa using hy, hxy.mono hle, hr.one hone y (List.mem_of_getElem? hy)⟩
   ·have := Fa.row b n' t' e' g s z h (old eb hmb)
    exact ⟨this.1, this.2.mono hle⟩
  map := by
   intro b es g s z h hmb
   by_cases eb : id = b
   ·subst eb; rw [hb] at h; cases h
   ·have := Fa.map b es g s z h (old eb hmb)
    exact ⟨this.1, this.2.1, this.2.2.1, this.2.2.2.mono hle⟩
  obj := by
   intro b q g s z h hmb
   by_cases eb : id = b
   ·subst eb; rw [hb] at h; cases h
   ·have := Fa.obj b q g s z h (old eb hmb)
    exact ⟨this.1, this.2.1, this.2.2.1, this.2.2.2.mono hle⟩
  exact := by
   intro b n' t' e' g s z h hmb hx
   by_cases eb : id = b
   ·subst eb
    rw [hb] at h; cases h
    obtain ⟨rfl, rfl, rfl⟩ := (by simpa using new hmb : g = w.heap.size ∧ s = 0 ∧ z = vs.length)
    exact ⟨⟨rfl, by omega⟩, Unfz.zero (heap_alloc_new w _)⟩
   ·exact Fa.exact b n' t' e' g s z h (old eb hmb) hx
  ro := by
   intro b t' g s z h hmb
   by_cases eb : id = b
   ·subst eb; rw [hb] at h; cases h
   ·exact (Fa.ro b t' g s z h (old eb hmb)).mono hle
  glob := by
   intro b t' h
   by_cases eb : id = b
   ·subst eb; rw [hb] at h; cases h
   ·obtain ⟨z, h1, h2⟩ := Fa.glob b t' h
    exact ⟨z, by rw [List.getElem?_set_ne eb]; exact h1, h2.mono hle⟩
  sep := by
   intro b1 b2 o1 o2 g s z s' z' hne h1 h2 a1 a2 m1 m2
   by_cases e1 : id = b1
   ·subst e1
    have := new m1
    cases this
    have := F.mapped_lt h2 a2 (old hne m2);omega
   ·by_cases e2 : id = b2
    ·subst e2
     have := new m2
     cases this
     have := F.mapped_lt h1 a1 (old e1 m1);omega
    ·exact F.sep b1 b2 o1 o2 g s z s' z' hne h1 h2 a1 a2 (old e1 m1) (old e2 m2) }
theorem Fits.later(F:Fits w0 m H w)(l:List AV)(e:TypeId):Fits w0 (m++[none]) (H.new (zb0 l e)) w:=by
 have hnew:(m++[none])[H.next]? =some none:=by rw[←F.len,List.getElem?_append_right (Nat.le_refl _)];simp
 have old:∀{b:Nat} {o:AObj} {p:Nat×Nat×Nat},H.next≠b→(H.new (zb0 l e)).get b=some o→(m++[none])[b]? =some (some p)→H.get b=some o∧m[b]? =some (some p):=by
  intro b o p eb h hm;rw[z1b _ eb] at h;rw[List.getElem?_append_left (by rw[F.len];exact F.lt_next h)] at hm;exact⟨h,hm⟩
 have no:∀{b:Nat} {p:Nat×Nat×Nat},(m++[none])[b]? =some (some p)→H.next≠b:=by
  intro b p h e;subst e;rw[hnew] at h;cases h
 exact {
  below := F.below
  floor := F.floor
  pin := by
   intro k o hk;refine ⟨(F.pin k o hk).1, fun b o2 s z h ho hm => ?_⟩
   obtain ⟨h, hm⟩ := old (no hm) h hm
   exact (F.pin k o hk).2 b o2 s z h ho hm
  len := by simp [F.len, AHeap.new]
  fresh := by
   intro b hb;have : H.next + 1 ≤ b := hb;rw [z1b _ (by omega)]; exact F.fresh b (by omega)
  wf := by
   intro b n t e' h i hi
   by_cases eb : H.next = b
   ·subst eb
    rw [z3c] at h;unfold zb0 at h;cases h;rw [zd3, List.getElem?_eq_none hi]
   ·rw [z1b _ eb] at h
    exact F.wf b n t e' h i hi
  row := by
   intro b n t e' g s z h hm
   obtain ⟨h, hm⟩ := old (no hm) h hm
   have := F.row b n t e' g s z h hm;exact ⟨this.1, this.2.mono (ye m _)⟩
  map := by
   intro b es g s z h hm
   obtain ⟨h, hm⟩ := old (no hm) h hm
   have := F.map b es g s z h hm;exact ⟨this.1, this.2.1, this.2.2.1, this.2.2.2.mono (ye m _)⟩
  obj := by
   intro b q g s z h hm
   obtain ⟨h, hm⟩ := old (no hm) h hm
   have := F.obj b q g s z h hm;exact ⟨this.1, this.2.1, this.2.2.1, this.2.2.2.mono (ye m _)⟩
  exact := by
   intro b n t e' g s z h hm hx
   obtain ⟨h, hm⟩ := old (no hm) h hm
   exact F.exact b n t e' g s z h hm hx
  ro := by
   intro b t g s z h hm
   obtain ⟨h, hm⟩ := old (no hm) h hm
   exact (F.ro b t g s z h hm).mono (ye m _)
  glob := by
   intro b t h
   by_cases eb : H.next = b
   ·subst eb; rw [z3c] at h; unfold zb0 at h; cases h
   ·rw [z1b _ eb] at h
    obtain ⟨z, h1, h2⟩ := F.glob b t h
    exact ⟨z, ye m _ _ _ h1, h2.mono (ye m _)⟩
  sep := by
   intro b1 b2 o1 o2 g s z s' z' hne h1 h2 a1 a2 m1 m2
   obtain ⟨h1, m1⟩ := old (no m1) h1 m1
   obtain ⟨h2, m2⟩ := old (no m2) h2 m2
   exact F.sep b1 b2 o1 o2 g s z s' z' hne h1 h2 a1 a2 m1 m2 }
theorem Ext.set{m0 m:Map}(h:Ext m0 m){id:Nat}{p:Nat×Nat×Nat}(hm:m[id]? =some none)(hid:m0.length≤id):Ext m0 (m.set id (some p)) where
 le:=Map.le_trans h.le (y34 hm p)
 virt k hk:=by
  have:k<m0.length:=(List.getElem?_eq_some_iff.1 hk).1;rw[List.getElem?_set_ne (by omega)];exact h.virt k hk
theorem Ext.len{m m':Map}(h:Ext m m'):m.length≤m'.length:=by
 rcases Nat.lt_or_ge m'.length m.length with hl|hl
 ·exfalso
  have hx:m[m'.length]? =some m[m'.length]:=List.getElem?_eq_getElem hl;have hn:m'[m'.length]? =none:=List.getElem?_eq_none (Nat.le_refl _);cases hc:m[m'.length] with
  |none=>rw[hc] at hx;have:=h.virt _ hx;rw[hn] at this;cases this
  |some p=>rw[hc] at hx;have:=h.le _ _ hx;rw[hn] at this;cases this
 ·exact hl
end
end
noncomputable section
open Go.RowKit
section
variable {P:Program}{m m0:Map}{w0:Base}{w:World}{H H':AHeap}{nx:ANext}{ops:Array Oper}{N:Nat}
def Pend(P:Program)(ops:Array Oper)(m0 m:Map)(H:AHeap)(a:AAct)(rs:List Rec)(ids:Nat→Option Nat)(i:Nat)(o:Oper):Prop:=
  (z41 ops a.tmps.get o.guard=some false∧∀d,o.dst=some d→a.tmps.get d=some (.tup []))∨
  (z41 ops a.tmps.get o.guard=some true∧
    ((∃ v, (∀ h, opA P a.eval o h = some (.val v, h)) ∧ ∀ d, o.dst = some d → a.tmps.get d = some v) ∨
     (∃v r,z2bd o.op=true∧opA P a.eval o H=some (.val v,H)∧(∀d,o.dst=some d→a.tmps.get d=some v)∧r∈rs∧r.i=i∧r.o=o)∨
     (∃ id x e n t r, ids i = some id ∧ ((o.op = .alloc e ∧ z176 P e = some x) ∨ ∃ y, o.op = .box e y ∧ a.eval y = some x) ∧ x.cells.all AV.one = true ∧ (∀ d, o.dst = some d → a.tmps.get d = some (.ptr id 0)) ∧
        H.get id=some (.row n t e)∧n=x.cells.length∧(∀k,k<n→t.get k=x.cells[k]?)∧m[id]? =some none∧m0.length≤id∧r∈rs∧r.i=i∧r.o=o∧r.id=id∧r.e=e∧r.cells=x.cells)))
inductive Ordered (ops:Array Oper):List Nat→Prop
 |nil:Ordered ops []
 |cons {i:Nat} {l:List Nat} (h:∀j∈z46 ops i,j∈l) (hi:i ∉ l) (o:Ordered ops l):Ordered ops (i::l)
theorem Ordered.closed{l:List Nat}(h:Ordered ops l):∀i∈l,∀j∈z46 ops i,j∈l:=by
 induction h with
 |nil=>intro i hi;simp at hi
 |cons h hi _ ih=>
  intro i hi j hj
  rcases List.mem_cons.1 hi with rfl|hi
  ·exact List.mem_cons_of_mem _ (h j hj)
  ·exact List.mem_cons_of_mem _ (ih i hi j hj)
theorem Ordered.first{S:Nat→Prop}{l:List Nat}(h:Ordered ops l):(∃i∈l,¬S i)→∃i∈l,¬S i∧∀j∈z46 ops i,S j:=by
 induction h with
 |nil=>rintro ⟨i,hi,_⟩;simp at hi
 | @cons i l h hi o ih=>
  rintro ⟨k,hk,hs⟩
  by_cases hex:∃i∈l,¬S i
  ·obtain ⟨j, h1, h2, h3⟩ := ih hex
   exact⟨j,List.mem_cons_of_mem _ h1,h2,h3⟩
  ·have all : ∀ j ∈ l, S j := fun j hj => Classical.byContradiction fun hn => hex ⟨j, hj, hn⟩
   rcases List.mem_cons.1 hk with rfl|hk
   ·exact⟨k,by simp,hs,fun j hj=>all j (h j hj)⟩
   ·exact absurd (all k hk) hs
structure Lag (P:Program) (ops:Array Oper) (w0:Base) (m0:Map) (N:Nat) (don:List Nat) (a:AAct) (H:AHeap) (rs:List Rec) (ids:Nat→Option Nat) (listed:Array Bool) (m:Map) (act:Act) (w:World):Prop where
 size:listed.size=ops.size
 sub:∀i,listed[i]? =some true→i∈don
 lt:∀i∈don,i<ops.size
 closedS:∀i,listed[i]? =some true→∀j∈z46 ops i,listed[j]? =some true
 ord:Ordered ops don
 kind:∀i∈don,listed[i]? ≠some true→z1b9 P ops i<3
 fits:Fits w0 m H w
 ext:Ext m0 m
 asize:act.tmps.size=N
 slots:∀t,(∃i∈don,listed[i]? ≠some true∧z19e ops i=some t)∨Slot m a act t
 defers:RelD m a.defers act.defers
 pend:∀i∈don,listed[i]? ≠some true→∀o,ops[i]? =some o→Pend P ops m0 m H a rs ids i o
 inj:∀i j b,ids i=some b→ids j=some b→i=j
 idlt:∀i b,ids i=some b→i∈don∧b<m.length
theorem z21d(h:z1a6 ops=true){i j:Nat}(hi:i<ops.size)(hj:j<ops.size):z477 ops i j=true:=by
 simp only[z1a6,z236] at h;exact h i (List.mem_range.2 hi) j (List.mem_range.2 hj)
theorem z1fa{i j t:Nat}(h:z477 ops i j=true)(hd:z19e ops j=some t)(hr:t∈z138 ops i):j∈z46 ops i∨i∈z46 ops j:=by
 simp only[z477,hd,Bool.and_eq_true,Bool.or_eq_true,Bool.not_eq_true'] at h
 rcases h.1 with(h|h)|h
 ·have := z107.2 hr
  rw[this] at h;cases h
 ·exact .inl (z107.1 h)
 ·exact .inr (z107.1 h)
theorem okTmp_dst{i j t:Nat}(h:z477 ops i j=true)(hd:z19e ops j=some t)(hne:i≠j):z19e ops i≠some t:=by
 simp only[z477,hd,Bool.and_eq_true,Bool.or_eq_true,Bool.not_eq_true'] at h
 rcases h.2 with h|h
 ·exact absurd (by simpa using h) hne
 ·simpa using h
theorem z3bd{i:Nat}(h:z1b9 P ops i<3):z460 ops i=false:=by
 unfold z1b9 at h
 split at h
 ·unfold z1b8 at h
  split at h
  ·omega
  ·assumption
 ·omega
theorem kindX_lt{i:Nat}{o:Op}{k:Nat}(h:z1b8 P ops i o=k)(hk:k<3):z7e P o=k:=by
 unfold z1b8 at h
 split at h
 ·omega
 ·exact h
theorem anti_ok{i k t:Nat}(h:z460 ops i=false)(hd:z19e ops i=some t)(hk:k<ops.size)(hr:t∈z138 ops k):i∈z46 ops k:=by
 simp only[z460,hd,List.any_eq_false,List.mem_range,Bool.and_eq_true,Bool.not_eq_true',not_and] at h;have:=h k hk (z107.2 hr);simp only[Bool.not_eq_false] at this;exact z107.1 this
variable {don:List Nat}{a:AAct}{rs:List Rec}{ids:Nat→Option Nat}{listed:Array Bool}{act:Act}
theorem Lag.reads(L:Lag P ops w0 m0 N don a H rs ids listed m act w)(hok:z1a6 ops=true){i:Nat}(hi:i<ops.size)(hS:∀j∈z46 ops i,listed[j]? =some true):∀t∈z138 ops i,Slot m a act t:=by
 intro t ht
 rcases L.slots t with⟨j,hj,hp,hd⟩|h
 ·exfalso
  have hjs:=L.lt j hj
  rcases z1fa (z21d hok hi hjs) hd ht with h|h
  ·exact hp (hS j h)
  ·exact hp (hS j (anti_ok (z3bd (L.kind j hj hp)) hd hi ht))
 ·exact h
theorem Lag.apart(L:Lag P ops w0 m0 N don a H rs ids listed m act w)(hok:z1a6 ops=true){i j t:Nat}(hi:i<ops.size)(hid:i ∉ don)(hj:j∈don)(hp:listed[j]? ≠some true)(hx:z1b9 P ops i<3∨∀k∈z46 ops i,listed[k]? =some true)(hd:z19e ops i=some t):t ∉ z138 ops j∧z19e ops j≠some t:=by
 have hjs:=L.lt j hj;have hne:j≠i:=fun e=>hid (e▸hj);refine⟨fun hr=>?_,okTmp_dst (z21d hok hjs hi) hd hne⟩;have hno:i ∉ z46 ops j:=fun h=>hid (L.ord.closed j hj i h)
 rcases hx with hx|hx
 ·exact hno (anti_ok (z3bd hx) hd hjs hr)
 ·rcases z1fa (z21d hok hjs hi) hd hr with h | h
  ·exact hno h
  ·exact hp (hx j h)
theorem z1c7{i:Nat}{o:Oper}(ho:ops[i]? =some o):z138 ops i=z1cc ops o.guard++z297 o.op.operands.toList:=by simp[z138,ho]
theorem z2ca{i:Nat}{o:Oper}(ho:ops[i]? =some o):z19e ops i=o.dst:=by simp[z19e,ho]
theorem zf4{a:AAct}{d:Option Tmp}{v:AV}{t:Nat}(h:d≠some t):(a.put d v).tmps.get t=a.tmps.get t:=by
 cases d with
 |none=>rfl
 |some s=>exact y17 _ _ (fun e=>h (by rw[e]))
theorem eval_put{a:AAct}{d:Option Tmp}{v:AV}{x:Operand}(h:∀t,x=.tmp t→d≠some t):(a.put d v).eval x=a.eval x:=by
 cases x with
 |tmp t=>exact zf4 (h t rfl)
 |const c=>rfl
 |global g=>rfl
 |func f=>rfl
theorem z208{f g:Nat→Option AV}{gd:Option (Nat×Bool)}(h:∀t∈z1cc ops gd,f t=g t):z41 ops f gd=z41 ops g gd:=by
 unfold z41
 split
 ·rfl
 ·rename_i j want
  cases ho:ops[j]? with
  |none=>rfl
  |some o=>
   simp only
   cases hd:o.dst with
   |none=>rfl
   |some d=>
    have:z19e ops j=some d:=by simp[z19e,ho,hd]
    simp only
    rw[h d (by simp[z1cc,this])]
theorem Pend.keep{m':Map}{a':AAct}{rs':List Rec}{ids':Nat→Option Nat}{i:Nat}{o:Oper}(ho:ops[i]? =some o)(h:Pend P ops m0 m H a rs ids i o)(hr:∀t∈z138 ops i,a'.tmps.get t=a.tmps.get t)(hd:∀d,o.dst=some d→a'.tmps.get d=a.tmps.get d)(hload:∀v r,z2bd o.op=true→opA P a.eval o H=some (.val v,H)→(∀d,o.dst=some d→a.tmps.get d=some v)→opA P a'.eval o H=some (.val v,H)→r∈rs→r.i=i→r.o=o→opA P a'.eval o H'=some (.val v,H'))(hrow:∀id n t e l r,H.get id=some (.row n t e)→n=l.length→(∀k,k<n→t.get k=l[k]?)→ids i=some id→r∈rs→r.i=i→r.o=o→r.id=id→r.e=e→r.cells=l→((∃e,o.op=.alloc e)∨∃e y,o.op=.box e y)→∃t',H'.get id=some (.row n t' e)∧∀k,k<n→t'.get k=l[k]?)(hm:∀id,ids i=some id→m[id]? =some none→m'[id]? =some none)(hrs:∀r∈rs,r∈rs')(hids:ids' i=ids i):Pend P ops m0 m' H' a' rs' ids' i o:=by
 have hw:z41 ops a'.tmps.get o.guard=z41 ops a.tmps.get o.guard:=z208 fun t ht=>hr t (by rw[z1c7 ho];exact List.mem_append_left _ ht)
 have he:∀x∈o.op.operands.toList,a'.eval x=a.eval x:=by
  intro x hx
  cases x with
  |tmp t=>exact hr t (by rw[z1c7 ho];exact List.mem_append_right _ (z221 hx))
  |const c=>rfl
  |global g=>rfl
  |func f=>rfl
 have hop:∀hp,opA P a'.eval o hp=opA P a.eval o hp:=z2b0 o he
 rcases h with⟨h1,h2⟩|⟨h1,h⟩
 ·exact .inl ⟨hw.trans h1,fun d e=>(hd d e).trans (h2 d e)⟩
 ·refine .inr ⟨hw.trans h1, ?_⟩
  rcases h with⟨v,h2,h3⟩|⟨v,r,hl,h2,h3,h4,h5,h6⟩|⟨id,x,e,n,t,r,h2,h3,h4,h5,h6,h7,h8,h9,h10,h11,h12,h13,h14,h15,h16⟩
  ·exact .inl ⟨v,fun hp=>(hop hp).trans (h2 hp),fun d e=>(hd d e).trans (h3 d e)⟩
  ·exact .inr (.inl ⟨v,r,hl,hload v r hl h2 h3 ((hop H).trans h2) h4 h5 h6,fun d e=>(hd d e).trans (h3 d e),hrs r h4,h5,h6⟩)
  ·obtain ⟨t', h17, h18⟩ := hrow id n t e x.cells r h6 h7 h8 h2 h11 h12 h13 h14 h15 h16 (by
    rcases h3 with⟨h3,_⟩|⟨y,h3,_⟩
    ·exact .inl ⟨e,h3⟩
    ·exact .inr ⟨e,y,h3⟩)
   refine .inr (.inr ⟨id,x,e,n,t',r,hids.trans h2,?_,h4,fun d e=>(hd d e).trans (h5 d e),h17,h7,h18,hm id h2 h9,h10,hrs r h11,h12,h13,h14,h15,h16⟩)
   rcases h3 with h3|⟨y,h3,h3'⟩
   ·exact .inl h3
   ·exact .inr ⟨y,h3,(he y (by rw[h3];simp[Op.operands])).trans h3'⟩
end
end
noncomputable section
open Go.RowKit
section
variable {P:Program}{m m0:Map}{w0:Base}{w:World}{H H':AHeap}{nx:ANext}{ops:Array Oper}{N:Nat}
variable {don:List Nat}{a:AAct}{rs:List Rec}{ids:Nat→Option Nat}{listed:Array Bool}{act:Act}
theorem z58{i k:Nat}(hi:i<listed.size):(listed.setIfInBounds i true)[k]? =some true↔(k=i∨listed[k]? =some true):=by
 by_cases e:i=k
 ·subst e
  rw[Array.getElem?_setIfInBounds_self_of_lt hi]
  simp
 ·rw [Array.getElem?_setIfInBounds_ne e]
  constructor
  ·exact .inr
  ·rintro (h | h)
   ·exact absurd h.symm e
   ·exact h
theorem z2a8{i:Nat}(hs:listed.size=ops.size):i∈Region.ready .any ops listed↔i<ops.size∧listed[i]? =some false∧∀j∈z46 ops i,listed[j]? =some true:=by
 unfold Region.ready;rw[List.mem_filter,List.mem_range];constructor
 ·rintro ⟨h1, h2⟩
  have hl:i<listed.size:=by omega
  have ho:ops[i]? =some ops[i]:=Array.getElem?_eq_getElem h1;have hli:listed[i]? =some listed[i]:=Array.getElem?_eq_getElem hl;simp only[Bool.and_eq_true,Bool.not_eq_true',ho,Option.map_some,Option.getD_some,Array.all_eq_true_iff_forall_mem,Bool.or_eq_true] at h2;obtain⟨h3,h4⟩:=h2;refine⟨h1,?_,?_⟩
  ·simp only [Array.getD_eq_getD_getElem?, hli, Option.getD_some] at h3
   rw[hli,h3]
  ·intro j hj
   simp only[z46,ho,z40f,List.mem_map,List.mem_filter,Array.mem_toList_iff] at hj;obtain⟨e,⟨he,hb⟩,rfl⟩:=hj
   rcases h4 e he with h|h
   ·rw[hb] at h;cases h
   ·simp only [Array.getD_eq_getD_getElem?] at h
    cases hx:listed[e.on]? with
    |none=>rw[hx] at h;cases h
    |some b=>rw[hx] at h;simp only[Option.getD_some] at h;rw[h]
 ·rintro ⟨h1, h2, h3⟩
  have ho:ops[i]? =some ops[i]:=Array.getElem?_eq_getElem h1;refine⟨h1,?_⟩;simp only[Bool.and_eq_true,Bool.not_eq_true',ho,Option.map_some,Option.getD_some,Array.all_eq_true_iff_forall_mem,Bool.or_eq_true];refine⟨by simp[Array.getD_eq_getD_getElem?,h2],fun e he=>?_⟩
  by_cases hb:Region.binds .any e=true
  ·right
   have:=h3 e.on (by
    simp only[z46,ho,z40f,List.mem_map,List.mem_filter,Array.mem_toList_iff];exact⟨e,⟨he,hb⟩,rfl⟩)
   simp[Array.getD_eq_getD_getElem?,this]
  ·left;simpa using hb
theorem Lag.did(L:Lag P ops w0 m0 N don a H rs ids listed m act w){i:Nat}{o:Oper}(ho:ops[i]? =some o)(hd:z139 N o=true)(hi:i∈don)(hS:∀j∈z46 ops i,listed[j]? =some true){m':Map}{w':World}(he:Ext m0 m')(hle:Map.le m m')(hlen:m.length≤m'.length)(hvirt:∀j id,j≠i→ids j=some id→m[id]? =some none→m'[id]? =some none)(F':Fits w0 m' H w'){v':Value}(hv:∀t,o.dst=some t→∀u,a.tmps.get t=some u→Rel m' u v'):
  Lag P ops w0 m0 N don a H rs ids (listed.setIfInBounds i true) m' (act.put o.dst v') w':=by
 have hil:i<listed.size:=by rw[L.size];exact L.lt i hi
 have not:∀{k},(listed.setIfInBounds i true)[k]? ≠some true→k≠i∧listed[k]? ≠some true:=fun h=>⟨fun e=>h ((z58 hil).2 (.inl e)),fun e=>h ((z58 hil).2 (.inr e))⟩
 exact {
  size := by simp [L.size]
  sub := fun k hk => by
   rcases (z58 hil).1 hk with rfl | hk
   ·exact hi
   ·exact L.sub k hk
  lt := L.lt
  closedS := fun k hk j hj => by
   rcases (z58 hil).1 hk with rfl | hk
   ·exact (z58 hil).2 (.inr (hS j hj))
   ·exact (z58 hil).2 (.inr (L.closedS k hk j hj))
  ord := L.ord
  kind := fun k hk h => L.kind k hk (not h).2
  fits := F'
  ext := he
  asize := by rw [z350]; exact L.asize
  slots := fun t => by
   by_cases hdt : o.dst = some t
   ·right
    intro u hu
    have hlt : t < N := by
     simp only [z139, hdt] at hd
     exact Nat.le_of_ble_eq_true hd
    refine ⟨v', ?_, hv t hdt u hu⟩;rw [hdt]
    simp [Act.put, L.asize, hlt]
   ·rcases L.slots t with ⟨k, h1, h2, h3⟩ | h
    ·left
     refine ⟨k, h1, fun h => ?_, h3⟩
     rcases (z58 hil).1 h with rfl | h
     ·rw [z2ca ho] at h3; exact hdt h3
     ·exact h2 h
    ·right
     intro u hu
     obtain ⟨u', h1, h2⟩ := h u hu
     refine ⟨u', ?_, h2.mono hle⟩;cases hod : o.dst with
     | none => exact h1
     | some s =>
      have : s ≠ t := fun e => hdt (by rw [hod, e])
      simp only [Act.put]
      rw [Array.getElem?_setIfInBounds_ne this];exact h1
  defers := by rw [z1f5]; exact L.defers.mono hle
  pend := fun k hk hkl o' ho' => by
   obtain ⟨hki, hkl⟩ := not hkl
   exact (L.pend k hk hkl o' ho').keep ho' (fun _ _ => rfl) (fun _ _ => rfl) (fun v r _ h _ _ _ _ _ => h) (fun id n t e l r h _ h2 _ _ _ _ _ _ _ _ => ⟨t, h, h2⟩) (fun id h => hvirt k id hki h) (fun _ h => h) rfl
  inj := L.inj
  idlt := fun k b h => ⟨(L.idlt k b h).1, Nat.lt_of_lt_of_le (L.idlt k b h).2 hlen⟩ }
theorem Lag.run(L:Lag P ops w0 m0 N don a H rs ids listed m act w)(hok:z1a6 ops=true){i:Nat}{o:Oper}(ho:ops[i]? =some o)(hd:z139 N o=true)(hi:i∈don)(hp:listed[i]? ≠some true)(hS:∀j∈z46 ops i,listed[j]? =some true){K:Act→World→Prop}{Q:Exit→Act→World→Prop}(hK:∀m' act' w',Lag P ops w0 m0 N don a H rs ids (listed.setIfInBounds i true) m' act' w'→K act' w'):wpOp P ops Q i K act w:=by
 have hsl:=L.reads hok (L.lt i hi) hS;rw[z1c7 ho] at hsl;have hop:∀x∈o.op.operands.toList,∀v,a.eval x=some v→Rel m v (act.eval x):=fun x hx v hv=>z19d (fun t e=>hsl t (List.mem_append_right _ (z221 (e▸hx)))) v hv;have hwant:∀b,z41 ops a.tmps.get o.guard=some b→Region.wanted o (yielded ops act.tmps)=b:=fun b h=>z178 (fun t ht=>hsl t (List.mem_append_left _ ht)) h;unfold wpOp;simp only[ho]
 rcases L.pend i hi hp o ho with⟨h1,h2⟩|⟨h1,h⟩
 ·rw [hwant _ h1]
  simp only[Bool.false_eq_true,if_false]
  exact hK m _ w (L.did ho hd hi hS L.ext (Map.le_refl m) (Nat.le_refl _) (fun _ _ _ _ h=>h) L.fits (fun t ht u hu=>by
   rw[h2 t ht] at hu;cases hu;exact .tup .nil))
 ·rw [hwant _ h1]
  simp only[if_true]
  left
  have plain:∀v,opA P a.eval o H=some (.val v,H)→(∀d,o.dst=some d→a.tmps.get d=some v)→o.wp P act w K Q:=by
   intro v h2 h3;obtain⟨m',w',he,F',v',hrun,hv⟩:=z436 L.fits o hop h2;rw[Oper.wp,hrun]
   exact hK m' _ w' (L.did ho hd hi hS (L.ext.trans he) he.le he.len (fun _ _ _ _ h=>he.virt _ h) F' (fun t ht u hu=>by
    rw[h3 t ht] at hu;cases hu;exact hv))
  rcases h with⟨v,h2,h3⟩|⟨v,r,hl,h2,h3,_⟩|⟨id,x,e,n,t,r,h2,h3,h4,h5,h6,h7,h8,h9,h10,_⟩
  ·exact plain v (h2 H) h3
  ·exact plain v h2 h3
  ·have fin : ∀ x' : Value, Rel m x x' → (execOp act.eval o).run P w = .ok (.value (.pointer (some ⟨w.heap.size, 0, none⟩))) (w.alloc (.cells x'.cells e)) → o.wp P act w K Q := by
    intro x' hx hrun;rw[Oper.wp,hrun];have F':=L.fits.fill h9 h6 h7 h8 hx.cells h4;have ex:x'.cells.toList.toArray=x'.cells:=by simp
    rw[ex] at F';have hidl:id<m.length:=(List.getElem?_eq_some_iff.1 h9).1;refine hK _ _ _ (L.did ho hd hi hS (L.ext.set h9 h10) (y34 h9 _) (by simp) (fun j id' hj hid' hm=>?_) F' (fun s hs u hu=>?_))
    ·have : id ≠ id' := fun e => hj (L.inj j i id' hid' (by rw [← e]; exact h2))
     rw[List.getElem?_set_ne this];exact hm
    ·rw [h5 s hs] at hu; cases hu
     have:=Rel.ptr (m:=m.set id (some (w.heap.size,0,x'.cells.toList.length))) (b:=id) (o:=0) (List.getElem?_set_self hidl)
     simpa using this
   obtain⟨dst,op,ty,pos,after,guard⟩:=o
   simp only at h3 hop
   rcases h3 with⟨rfl,hz⟩|⟨y,rfl,hy⟩
   ·obtain ⟨i', zv, hi', hzv, hrel, _, _⟩ := z1e9 m hz
    refine fin zv hrel ?_
    simp[execOp,Instr.alloc,zeroValue,typeInfo,hi',hzv,newVar,newRow]
   ·have hrel := hop y (by simp [Op.operands]) x hy
    refine fin _ hrel ?_
    simp[execOp,Instr.box,newVar,newRow]
theorem Lag.more(L:Lag P ops w0 m0 N don a H rs ids listed m act w)(hok:z1a6 ops=true){i:Nat}{o:Oper}(ho:ops[i]? =some o)(hid:i ∉ don)(hE:∀j∈z46 ops i,j∈don)(hk:z1b9 P ops i<3){m':Map}{v:AV}{rs':List Rec}{ids':Nat→Option Nat}(he:Ext m m')(F':Fits w0 m' H' w)(hH:∀b,(H.get b).isSome=true→H'.get b=H.get b)(hrs:∀r∈rs,r∈rs')(hids:∀j,j≠i→ids' j=ids j)(hidi:∀b,ids' i=some b→m.length≤b∧b<m'.length)(hpend:Pend P ops m0 m' H' (a.put o.dst v) rs' ids' i o):Lag P ops w0 m0 N (i::don) (a.put o.dst v) H' rs' ids' listed m' act w:=by
 have hi:i<ops.size:=(Array.getElem?_eq_some_iff.1 ho).1
 exact {
  size := L.size
  sub := fun k hk => List.mem_cons_of_mem _ (L.sub k hk)
  lt := fun k hk => by
   rcases List.mem_cons.1 hk with rfl | hk
   ·exact hi
   ·exact L.lt k hk
  closedS := L.closedS
  ord := .cons hE hid L.ord
  kind := fun k hk' h => by
   rcases List.mem_cons.1 hk' with rfl | hk'
   ·exact hk
   ·exact L.kind k hk' h
  fits := F'
  ext := L.ext.trans he
  asize := L.asize
  slots := fun t => by
   by_cases hdt : o.dst = some t
   ·left
    exact ⟨i, by simp, fun h => hid (L.sub i h), by rw [z2ca ho]; exact hdt⟩
   ·rcases L.slots t with ⟨k, h1, h2, h3⟩ | h
    ·exact .inl ⟨k, List.mem_cons_of_mem _ h1, h2, h3⟩
    ·right
     intro u hu;rw [zf4 hdt] at hu
     obtain ⟨u', h1, h2⟩ := h u hu
     exact ⟨u', h1, h2.mono he.le⟩
  defers := by rw [z1f6]; exact L.defers.mono he.le
  pend := fun k hk' hkl o' ho' => by
   rcases List.mem_cons.1 hk' with rfl | hk'
   ·rw [ho] at ho'; cases ho'; exact hpend
   ·have hki : k ≠ i := fun e => hid (e ▸ hk')
    have hap : ∀ t, o.dst = some t → t ∉ z138 ops k ∧ z19e ops k ≠ some t := fun t ht => L.apart hok hi hid hk' hkl (.inl hk) (by rw [z2ca ho]; exact ht);refine (L.pend k hk' hkl o' ho').keep ho' (fun t ht => zf4 fun e => (hap t e).1 ht) (fun d hd => zf4 fun e => (hap d e).2 (by rw [z2ca ho']; exact hd)) ?_ ?_ (fun id _ h => he.virt id h) hrs (hids k hki)
    ·intro v r hl _ _ h _ _ _
     obtain ⟨v2, e1, _, h4⟩ := z34d hl h
     cases e1
     exact h4 H' hH
    ·intro id n t e l r h _ h2 _ _ _ _ _ _ _ _
     exact ⟨t, by rw [hH id (by rw [h]; rfl)]; exact h, h2⟩
  inj := fun j k b hj hk' => by
   by_cases e1 : j = i
   ·by_cases e2 : k = i
    ·rw [e1, e2]
    ·subst e1
     rw [hids k e2] at hk';have := (L.idlt k b hk').2;have := (hidi b hj).1;omega
   ·rw [hids j e1] at hj
    by_cases e2 : k = i
    ·subst e2
     have := (L.idlt j b hj).2;have := (hidi b hk').1;omega
    ·rw [hids k e2] at hk'
     exact L.inj j k b hj hk'
  idlt := fun j b hj => by
   by_cases e1 : j = i
   ·subst e1; exact ⟨by simp, (hidi b hj).2⟩
   ·rw [hids j e1] at hj
    have := L.idlt j b hj;exact ⟨List.mem_cons_of_mem _ this.1, Nat.lt_of_lt_of_le this.2 he.len⟩ }
end
end
noncomputable section
open Go.RowKit
section
variable {P:Program}{m m0:Map}{w0:Base}{w:World}{H H':AHeap}{nx:ANext}{ops:Array Oper}{N:Nat}
variable {don:List Nat}{a a':AAct}{rs:List Rec}{ids:Nat→Option Nat}{listed:Array Bool}{act:Act}{call:z10}
def z1e3(P:Program)(ops:Array Oper)(a:AAct)(H:AHeap)(i:Nat)(o:Oper)(rs:List Rec):List Rec:=match z1b8 P ops i o.op with
 |0=>rs
 |_=>match z41 ops a.tmps.get o.guard with
  |some true=>⟨i,o,H.next,z202 o.op,ze6 P a o.op⟩::rs
  |_=>rs
theorem z1c6(i:Nat)(o:Oper):∀r∈rs,r∈z1e3 P ops a H i o rs:=by
 intro r hr;unfold z1e3
 split
 ·exact hr
 ·split
  ·exact List.mem_cons_of_mem _ hr
  ·exact hr
theorem z3be{i:Nat}{o:Oper}(ho:ops[i]? =some o):z1b9 P ops i=z1b8 P ops i o.op:=by simp[z1b9,ho]
theorem Lag.ahead(L:Lag P ops w0 m0 N don a H rs ids listed m act w)(hok:z1a6 ops=true){i:Nat}{o:Oper}(ho:ops[i]? =some o)(hid:i ∉ don)(hE:∀j∈z46 ops i,j∈don)(hk:z1b8 P ops i o.op<3)(hst:z136 P call ops o a H=some (.go a' H')):
  ∃m' ids',Lag P ops w0 m0 N (i::don) a' H' (z1e3 P ops a H i o rs) ids' listed m' act w:=by
 have hi:i<ops.size:=(Array.getElem?_eq_some_iff.1 ho).1;have hkA:z1b9 P ops i<3:=by rw[z3be ho];exact hk
 -- its own slots
 have hown:∀t,o.dst=some t→t ∉ z138 ops i:=by
  intro t ht hr;have:=z1fa (z21d hok hi hi) (by rw[z2ca ho];exact ht) hr
  rcases this with h|h<;>exact hid (hE i h)
 have hwput:∀v,z41 ops (a.put o.dst v).tmps.get o.guard=z41 ops a.tmps.get o.guard:=fun v=>z208 fun t ht=>zf4 fun e=>hown t e (by rw[z1c7 ho];exact List.mem_append_left _ ht);have heput:∀v,∀x∈o.op.operands.toList,(a.put o.dst v).eval x=a.eval x:=fun v x hx=>eval_put fun t e he=>hown t he (by rw[z1c7 ho];exact List.mem_append_right _ (z221 (e▸hx)))
 have hdput:∀v d,o.dst=some d→(a.put o.dst v).tmps.get d=some v:=by
  intro v d hd;rw[hd];exact y15 _ _ _
 unfold z136 at hst
 split at hst
 ·rename_i hw
  cases hopA:opA P a.eval o H with
  |none=>rw[hopA] at hst;cases hst
  |some p=>
   obtain⟨nx,H1⟩:=p;rw[hopA] at hst;have hkk:z7e P o.op=z1b8 P ops i o.op:=kindX_lt rfl hk
   by_cases h0:z1b8 P ops i o.op=0
   ·obtain ⟨v, rfl, rfl, hfree⟩ := kind0 (hkk.trans h0) hopA
    simp only[ze7,z39,Option.some.injEq,AStep.go.injEq] at hst;obtain⟨rfl,rfl⟩:=hst;exact⟨m,fun k=>if k=i then none else ids k,L.more hok ho hid hE hkA (Ext.refl m) L.fits (fun _ _=>rfl) (z1c6 i o) (fun j hj=>by simp[hj]) (fun b hb=>by simp at hb) (.inr ⟨(hwput v).trans hw,.inl ⟨v,fun hp=>(z2b0 o (heput v) hp).trans (hfree hp),hdput v⟩⟩)⟩
   ·have hrec : (⟨i, o, H.next, z202 o.op, ze6 P a o.op⟩ : Rec) ∈ z1e3 P ops a H i o rs := by
     unfold z1e3
     split
     ·rename_i e;exact absurd e h0
     ·rw[hw];simp
    by_cases h1:z1b8 P ops i o.op=1
    ·have hl := kind1 (hkk.trans h1)
     obtain⟨v,rfl,rfl,_⟩:=z34d hl hopA;simp only[ze7,z39,Option.some.injEq,AStep.go.injEq] at hst;obtain⟨rfl,rfl⟩:=hst;exact⟨m,fun k=>if k=i then none else ids k,L.more hok ho hid hE hkA (Ext.refl m) L.fits (fun _ _=>rfl) (z1c6 i o) (fun j hj=>by simp[hj]) (fun b hb=>by simp at hb) (.inr ⟨(hwput v).trans hw,.inr (.inl ⟨v,_,hl,(z2b0 o (heput v) H1).trans hopA,hdput v,hrec,rfl,rfl⟩)⟩)⟩
    ·have h2 : z7e P o.op = 2 := by rw [hkk]; omega
     have key:∀(e:TypeId) (z:Option AV),zd9 H e z=some (nx,H1)→z202 o.op=e→(∀x,z=some x→ze6 P a o.op=x.cells)→(∀x v,z=some x→(o.op=.alloc e∧z176 P e=some x)∨∃y,o.op=.box e y∧(a.put o.dst v).eval y=some x)→
       ∃m' ids',Lag P ops w0 m0 N (i::don) a' H' (z1e3 P ops a H i o rs) ids' listed m' act w:=by
      intro e z hb ht hcells hop;obtain⟨x,rfl,hone,rfl,rfl,_⟩:=box_out hb;simp only[ze7,z39,Option.some.injEq,AStep.go.injEq] at hst;obtain⟨rfl,rfl⟩:=hst;have hlen:=L.fits.len;refine⟨m++[none],fun k=>if k=i then some H.next else ids k,L.more hok ho hid hE hkA (Ext.append m _) (L.fits.later x.cells e) (fun b hb=>?_) (z1c6 i o) (fun j hj=>by simp[hj]) (fun b hb=>?_) ?_⟩
      ·obtain ⟨ob, hob⟩ := Option.isSome_iff_exists.1 hb
       exact z1b _ (fun e=>by have:=L.fits.lt_next hob;omega)
      ·simp at hb; subst hb
       simp;omega
      ·refine .inr ⟨(hwput _).trans hw, .inr (.inr ⟨H.next, x, e, x.cells.length, T.put .e 0 x.cells, _, by simp, hop x _ rfl, hone, hdput _, z3c _, rfl, fun k hk => by rw [zd3], ?_, ?_, hrec, rfl, rfl, rfl, ht, hcells x rfl⟩)⟩
       ·rw[←hlen,List.getElem?_append_right (Nat.le_refl _)];simp
       ·rw[←hlen];exact L.ext.len
     rcases kind2 h2 with⟨e,hl⟩|⟨e,y,hl⟩
     ·have hb : zd9 H e (z176 P e) = some (nx, H1) := by
       have:opA P a.eval o H=zd9 H e (z176 P e):=by simp only[opA,z251,hl,z456]
       rw[←this];exact hopA
      exact key e _ hb (by rw[hl];rfl) (fun x hx=>by rw[hl];simp only[ze6,hx]) (fun x v hx=>.inl ⟨hl,hx⟩)
     ·have hb : zd9 H e (a.eval y) = some (nx, H1) := by
       have:opA P a.eval o H=zd9 H e (a.eval y):=by simp only[opA,z251,hl,do_box]
       rw[←this];exact hopA
      exact key e _ hb (by rw[hl];rfl) (fun x hx=>by rw[hl];simp only[ze6,hx]) (fun x v hx=>.inr ⟨y,hl,(heput v y (by rw[hl];simp[Op.operands])).trans hx⟩)
 ·rename_i hw
  simp only[z39,Option.some.injEq,AStep.go.injEq] at hst;obtain⟨rfl,rfl⟩:=hst;exact⟨m,fun k=>if k=i then none else ids k,L.more hok ho hid hE hkA (Ext.refl m) L.fits (fun _ _=>rfl) (z1c6 i o) (fun j hj=>by simp[hj]) (fun b hb=>by simp at hb) (.inl ⟨(hwput _).trans hw,hdput _⟩)⟩
 ·cases hst
theorem Lag.both(L:Lag P ops w0 m0 N don a H rs ids listed m act w)(hok:z1a6 ops=true){i:Nat}{o:Oper}(ho:ops[i]? =some o)(hd:z139 N o=true)(hid:i ∉ don)(hS:∀j∈z46 ops i,listed[j]? =some true){m':Map}{w':World}{v:AV}{v':Value}{ds:List (FuncId×List AV×List AV)}{ds':List Deferred}(he:Ext m m')(F':Fits w0 m' H' w')(hv:Rel m' v v')(hds:RelD m' ds ds')(hrec:z1aa (z2ee P ops i ((⟨a.tmps,ds++a.defers⟩:AAct).put o.dst v) H') rs=true):
  Lag P ops w0 m0 N (i::don) ((⟨a.tmps,ds++a.defers⟩:AAct).put o.dst v) H' rs ids (listed.setIfInBounds i true) m' (({act with defers:=ds'++act.defers}:Act).put o.dst v') w':=by
 have hi:i<ops.size:=(Array.getElem?_eq_some_iff.1 ho).1;have hil:i<listed.size:=by rw[L.size];exact hi
 have not:∀{k},(listed.setIfInBounds i true)[k]? ≠some true→k≠i∧listed[k]? ≠some true:=fun h=>⟨fun e=>h ((z58 hil).2 (.inl e)),fun e=>h ((z58 hil).2 (.inr e))⟩
 have hcl:∀k,(listed.setIfInBounds i true)[k]? =some true→∀j∈z46 ops k,(listed.setIfInBounds i true)[j]? =some true:=fun k hk j hj=>by
  rcases(z58 hil).1 hk with rfl|hk
  ·exact(z58 hil).2 (.inr (hS j hj))
  ·exact(z58 hil).2 (.inr (L.closedS k hk j hj))
 exact {
  size := by simp [L.size]
  sub := fun k hk => by
   rcases (z58 hil).1 hk with rfl | hk
   ·simp
   ·exact List.mem_cons_of_mem _ (L.sub k hk)
  lt := fun k hk => by
   rcases List.mem_cons.1 hk with rfl | hk
   ·exact hi
   ·exact L.lt k hk
  closedS := hcl
  ord := .cons (fun j hj => L.sub j (hS j hj)) hid L.ord
  kind := fun k hk h => by
   obtain ⟨h1, h2⟩ := not h
   rcases List.mem_cons.1 hk with rfl | hk
   ·exact absurd rfl h1
   ·exact L.kind k hk h2
  fits := F'
  ext := L.ext.trans he
  asize := by rw [z350]; exact L.asize
  slots := fun t => by
   by_cases hdt : o.dst = some t
   ·right
    exact z34f (a := ⟨a.tmps, ds ++ a.defers⟩) (act := { act with defers := ds' ++ act.defers }) L.asize (fun s hs => by
     simp only [z139, hs] at hd
     exact Nat.le_of_ble_eq_true hd) hv (fun h => absurd hdt h)
   ·rcases L.slots t with ⟨k, h1, h2, h3⟩ | h
    ·left
     refine ⟨k, List.mem_cons_of_mem _ h1, fun h => ?_, h3⟩
     rcases (z58 hil).1 h with rfl | h
     ·exact hid h1
     ·exact h2 h
    ·right
     exact z34f (a := ⟨a.tmps, ds ++ a.defers⟩) (act := { act with defers := ds' ++ act.defers }) L.asize (fun s hs => by
      simp only [z139, hs] at hd
      exact Nat.le_of_ble_eq_true hd) hv (fun _ => h.mono he.le)
  defers := by rw [z1f6, z1f5]; exact hds.append (L.defers.mono he.le)
  pend := fun k hk' hkl o' ho' => by
   obtain ⟨hki, hkl'⟩ := not hkl
   rcases List.mem_cons.1 hk' with rfl | hk'
   ·exact absurd rfl hki
   ·have hap : ∀ t, o.dst = some t → t ∉ z138 ops k ∧ z19e ops k ≠ some t := fun t ht => L.apart hok hi hid hk' hkl' (.inr hS) (by rw [z2ca ho]; exact ht)
    have hput : ∀ t, o.dst ≠ some t → ((⟨a.tmps, ds ++ a.defers⟩ : AAct).put o.dst v).tmps.get t = a.tmps.get t := fun t ht => zf4 (a := ⟨a.tmps, ds ++ a.defers⟩) ht;have hdst : ∀ d, o'.dst = some d → ((⟨a.tmps, ds ++ a.defers⟩ : AAct).put o.dst v).tmps.get d = a.tmps.get d := fun d hd => hput d fun e => (hap d e).2 (by rw [z2ca ho']; exact hd)
    -- what the check says
    have hck : ∀ r ∈ rs, r.i = k → r.o = o' → (match z2bd r.o.op with
      | true => z24a (z49a (opA P ((⟨a.tmps, ds ++ a.defers⟩ : AAct).put o.dst v).eval r.o H')) (tmpO ((⟨a.tmps, ds ++ a.defers⟩ : AAct).put o.dst v) r.o.dst)
      | false => match H'.get r.id with
       | some (.row n t e) => Nat.beq n r.cells.length && Nat.beq e r.e && z2a2 (t.take 0 n) r.cells
       | _ => false) = true := by
     intro r hr h1 h2;have := z492 rs hrec r hr
     simp only [z2ee, Bool.or_eq_true] at this
     rcases this with h | h
     ·exfalso
      refine hkl (z3e0 (S := fun k => (listed.setIfInBounds i true)[k]? = some true) hcl ops.size i k ((z58 hil).2 (.inl rfl)) (h1 ▸ h))
     ·exact h
    refine (L.pend k hk' hkl' o' ho').keep ho' (fun t ht => hput t fun e => (hap t e).1 ht) hdst ?_ ?_ (fun id _ h => he.virt id h) (fun _ h => h) rfl
    ·intro u r hl hold hval hnew hr h1 h2
     have := hck r hr h1 h2;rw [h2, hl] at this
     simp only at this
     cases hop : opA P ((⟨a.tmps, ds ++ a.defers⟩ : AAct).put o.dst v).eval o' H' with
     | none => rw [hop] at this; simp [z49a, z24a] at this
     | some p =>
      obtain ⟨nx, H2⟩ := p
      obtain ⟨v2, rfl, rfl, _⟩ := z34d hl hop
      rw [hop] at this
      simp only [z49a] at this
      cases hd' : o'.dst with
      | none => rw [hd'] at this; simp [tmpO, z24a] at this
      | some d =>
       rw [hd'] at this
       simp only [tmpO] at this
       rw [hdst d hd', hval d hd'] at this
       simp only [z24a] at this
       rw [y36 _ _ this]
    ·intro id n t e l r hrow hn hget hids hr h1 h2 h3 h4 h5 hshape
     have := hck r hr h1 h2
     have hres : (match H'.get r.id with
       | some (.row n t e) => Nat.beq n r.cells.length && Nat.beq e r.e && z2a2 (t.take 0 n) r.cells
       | _ => false) = true := by
      rcases hshape with ⟨e2, hl⟩ | ⟨e2, y, hl⟩
      ·rw [h2, hl] at this; exact this
      ·rw [h2, hl] at this; exact this
     rw [h3, h4, h5] at hres
     split at hres
     ·rename_i n2 t2 e2 hrow2
      simp only [Bool.and_eq_true] at hres
      obtain ⟨⟨hn2, he2⟩, hs⟩ := hres
      have hn2 : n2 = l.length := Nat.eq_of_beq_eq_true hn2;have he2 : e2 = e := Nat.eq_of_beq_eq_true he2;subst he2;cases htk : t2.take 0 n2 with
      | none => rw [htk] at hs; simp [z2a2] at hs
      | some l2 =>
       rw [htk] at hs
       simp only [z2a2] at hs
       have := y22 _ _ hs;subst this
       obtain ⟨_, hg⟩ := y25 t2 n2 0 l2 htk
       refine ⟨t2, by rw [hrow2, hn, hn2], fun q hq => ?_⟩;have := hg q (by omega);rwa [Nat.zero_add] at this
     ·cases hres
  inj := L.inj
  idlt := fun k b hk => ⟨List.mem_cons_of_mem _ (L.idlt k b hk).1, Nat.lt_of_lt_of_le (L.idlt k b hk).2 he.len⟩ }
theorem Lag.effect(hc:ze2 P w0 call)(L:Lag P ops w0 m0 N don a H rs ids listed m act w)(hok:z1a6 ops=true){i:Nat}{o:Oper}(ho:ops[i]? =some o)(hd:z139 N o=true)(hid:i ∉ don)(hS:∀j∈z46 ops i,listed[j]? =some true)(hst:z136 P call ops o a H=some (.go a' H'))(hrec:z1aa (z2ee P ops i a' H') rs=true){K:Act→World→Prop}{Q:Exit→Act→World→Prop}(hK:∀m' act' w',Lag P ops w0 m0 N (i::don) a' H' rs ids (listed.setIfInBounds i true) m' act' w'→K act' w'):wpOp P ops Q i K act w:=by
 have hi:i<ops.size:=(Array.getElem?_eq_some_iff.1 ho).1;have hsl:=L.reads hok hi hS;rw[z1c7 ho] at hsl;have hop:∀x∈o.op.operands.toList,∀v,a.eval x=some v→Rel m v (act.eval x):=fun x hx v hv=>z19d (fun t e=>hsl t (List.mem_append_right _ (z221 (e▸hx)))) v hv;have hwant:∀b,z41 ops a.tmps.get o.guard=some b→Region.wanted o (yielded ops act.tmps)=b:=fun b h=>z178 (fun t ht=>hsl t (List.mem_append_left _ ht)) h;unfold wpOp;simp only[ho];unfold z136 at hst
 split at hst
 ·rename_i hw
  rw[hwant _ hw];simp only[if_true];cases hopA:opA P a.eval o H with
  |none=>rw[hopA] at hst;cases hst
  |some p=>
   obtain⟨nx,H1⟩:=p;rw[hopA] at hst;refine .inl (z49d hc (z436 L.fits o hop hopA) hst ?_ (fun v h' e=>by cases e));intro a2 h2 e m' w' v v' ds ds' he F' hv e2 hds
   cases e
   subst e2;exact hK m' _ w' (L.both hok ho hd hid hS he F' hv hds hrec)
 ·rename_i hw
  rw[hwant _ hw];simp only[Bool.false_eq_true,if_false];simp only[z39,Option.some.injEq,AStep.go.injEq] at hst;obtain⟨rfl,rfl⟩:=hst;exact hK m _ w (L.both hok ho hd hid hS (Ext.refl m) L.fits (v:=.tup []) (v':=undef) (ds:=[]) (ds':=[]) (.tup .nil) .nil hrec)
 ·cases hst
theorem kindOf_le(P:Program)(o:Op):z7e P o≤3:=by
 cases o
 case convert=>
  simp only[z7e]
  split
  ·omega
  ·omega
  ·split<;>omega
 case slice=>
  simp only[z7e]
  split<;>omega
 case binOp=>
  simp only[z7e]
  split
  ·omega
  ·split<;>omega
 case call=>
  simp only[z7e]
  split
  ·split<;>omega
  ·omega
  ·omega
  ·omega
 all_goals(simp only[z7e];try omega)
theorem kindX_le(P:Program)(ops:Array Oper)(i:Nat)(o:Op):z1b8 P ops i o≤3:=by
 unfold z1b8
 split
 ·omega
 ·exact kindOf_le P o
theorem z2b1{i:Nat}{l:List Nat}(h:z1e5 P ops don (i::l)=true):i<ops.size∧i ∉ don∧(∀j∈z46 ops i,j∈don)∧(z1b9 P ops i<3∨∀j,j<ops.size→j ∉ don→(∀k∈z46 ops j,k∈don)→j=i)∧z1e5 P ops (i::don) l=true:=by
 simp only[z1e5,Bool.and_eq_true,Bool.or_eq_true,Bool.not_eq_true'] at h;obtain⟨⟨⟨⟨h1,h2⟩,h3⟩,h4⟩,h5⟩:=h;refine⟨Nat.le_of_ble_eq_true h1,fun hm=>(by rw[z107.2 hm] at h2;cases h2),z429.1 h3,?_,h5⟩
 rcases h4 with h4|h4
 ·exact .inl (Nat.le_of_ble_eq_true h4)
 ·right
  intro j hj hjd hje;have:=z236.1 h4 j (List.mem_range.2 hj);simp only[onlyB,Bool.or_eq_true,Bool.not_eq_true'] at this
  rcases this with(h|h)|h
  ·exact absurd (z107.1 h) hjd
  ·rw[z429.2 hje] at h;cases h
  ·exact Nat.eq_of_beq_eq_true h
theorem dGo_cons{i:Nat}{l:List Nat}{R:AExit×AAct×AHeap}(h:dGo P call ops (i::l) a H rs=some R):∃o a' h',ops[i]? =some o∧z136 P call ops o a H=some (.go a' h')∧
  ((z1b8 P ops i o.op<3∧dGo P call ops l a' h' (z1e3 P ops a H i o rs)=some R)∨(z1b8 P ops i o.op=3∧z1aa (z2ee P ops i a' h') rs=true∧dGo P call ops l a' h' rs=some R)):=by
 simp only[dGo] at h
 split at h
 ·cases h
 ·rename_i o ho
  split at h
  ·rename_i a' h' hst
   refine⟨o,a',h',ho,hst,?_⟩
   split at h
   ·rename_i hk
    left
    refine⟨by omega,?_⟩;simp only[z1e3,hk];exact h
   ·rename_i hk
    right
    split at h
    ·rename_i hc
     exact⟨hk,hc,h⟩
    ·cases h
   ·rename_i hk0 hk3
    left
    have hle:=kindX_le P ops i o.op
    refine⟨by
     rcases Nat.lt_or_ge (z1b8 P ops i o.op) 3 with h3|h3
     ·exact h3
     ·exact absurd (by omega) hk3,?_⟩
    have e:z1e3 P ops a H i o rs=(match z41 ops a.tmps.get o.guard with
      |some true=>⟨i,o,H.next,z202 o.op,ze6 P a o.op⟩::rs
      |_=>rs):=by
     unfold z1e3
     split
     ·rename_i hk;exact absurd hk hk0
     ·rfl
    rw[e]
    split at h
    ·rename_i hw
     simp only[hw];exact h
    ·rename_i hw
     split
     ·rename_i hw2;exact absurd hw2 hw
     ·exact h
  ·cases h
theorem Lag.walk(hc:ze2 P w0 call)(hok:z1a6 ops=true)(hN:∀o∈ops.toList,z139 N o=true){R:AExit×AAct×AHeap}{i:Nat}(hi:i<ops.size){K:Act→World→Prop}{Q:Exit→Act→World→Prop}:∀(l don:List Nat) (a:AAct) (H:AHeap) (rs:List Rec) (ids:Nat→Option Nat) (m:Map),
  Lag P ops w0 m0 N don a H rs ids listed m act w→listed[i]? ≠some true→(∀j∈z46 ops i,listed[j]? =some true)→z1e5 P ops don l=true→dGo P call ops l a H rs=some R→
  (∀don' l' a' H' rs' ids' m' act' w',Lag P ops w0 m0 N don' a' H' rs' ids' (listed.setIfInBounds i true) m' act' w'→z1e5 P ops don' l'=true→dGo P call ops l' a' H' rs'=some R→K act' w')→wpOp P ops Q i K act w:=by
 have ho:ops[i]? =some ops[i]:=Array.getElem?_eq_getElem hi
 have mem:∀{k:Nat} {o:Oper},ops[k]? =some o→z139 N o=true:=fun h=>hN _ (by
  have:=Array.getElem?_eq_some_iff.1 h;obtain⟨hk,rfl⟩:=this
  simp)
 intro l
 induction l with
 |nil=>
  intro don a H rs ids m L hp hS hplan hgo hK
  have hin:i∈don:=by
   simp only[z1e5] at hplan;exact z107.1 (z236.1 hplan i (List.mem_range.2 hi))
  exact L.run hok ho (mem ho) hin hp hS (fun m' act' w' L'=>hK don [] a H rs ids m' act' w' L' hplan hgo)
 |cons j l ih=>
  intro don a H rs ids m L hp hS hplan hgo hK
  by_cases hin:i∈don
  ·exact L.run hok ho (mem ho) hin hp hS (fun m' act' w' L'=>hK don (j::l) a H rs ids m' act' w' L' hplan hgo)
  ·obtain ⟨h1, h2, h3, h4, h5⟩ := z2b1 hplan
   obtain⟨o,a',h',hoj,hst,hres⟩:=dGo_cons hgo
   rcases hres with⟨hk,hgo'⟩|⟨hk,hrec,hgo'⟩
   ·obtain ⟨m', ids', L'⟩ := L.ahead hok hoj h2 h3 hk hst
    exact ih (j::don) a' h' _ ids' m' L' hp hS h5 hgo' hK
   ·have hij : i = j := by
     rcases h4 with h4|h4
     ·rw[z3be hoj] at h4;omega
     ·exact h4 i hi hin (fun k hk=>L.sub k (hS k hk))
    subst hij;exact L.effect hc hok hoj (mem hoj) hin hS hst hrec (fun m' act' w' L'=>hK (i::don) l a' h' rs ids m' act' w' L' h5 hgo')
theorem any_ok(hc:ze2 P w0 call)(hok:z1a6 ops=true)(hN:∀o∈ops.toList,z139 N o=true){e1:AExit}{a1:AAct}{h1:AHeap}:∀(fuel:Nat) (listed:Array Bool) (don l:List Nat) (a:AAct) (H:AHeap) (rs:List Rec) (ids:Nat→Option Nat) (m:Map) (act:Act) (w:World),
  Lag P ops w0 m0 N don a H rs ids listed m act w→z1e5 P ops don l=true→dGo P call ops l a H rs=some (e1,a1,h1)→listed.countP (fun b=> !b)≤fuel→wpAny P .any ops (z494 w0 m0 N e1 a1 h1) fuel listed act w:=by
 have fin:∀(listed:Array Bool) (don l:List Nat) (a:AAct) (H:AHeap) (rs:List Rec) (ids:Nat→Option Nat) (m:Map) (act:Act) (w:World),
   Lag P ops w0 m0 N don a H rs ids listed m act w→z1e5 P ops don l=true→dGo P call ops l a H rs=some (e1,a1,h1)→Region.ready .any ops listed=[]→z494 w0 m0 N e1 a1 h1 .normal act w:=by
  intro listed don l a H rs ids m act w L hplan hgo hr
  have notready:∀i,i<ops.size→listed[i]? ≠some true→(∀j∈z46 ops i,listed[j]? =some true)→False:=by
   intro i hi hp hS;have hil:i<listed.size:=by rw[L.size];exact hi
   have:listed[i]? =some false:=by
    rw[Array.getElem?_eq_getElem hil] at hp ⊢;cases hb:listed[i] with
    |true=>rw[hb] at hp;exact absurd rfl hp
    |false=>rfl
   have:=(z2a8 (ops:=ops) L.size).2 ⟨hi,this,hS⟩;rw[hr] at this
   simp at this
  have alld:∀i∈don,listed[i]? =some true:=by
   intro i hi;apply Classical.byContradiction;intro hn;obtain⟨k,h1,h2,h3⟩:=L.ord.first (S:=fun k=>listed[k]? =some true) ⟨i,hi,hn⟩;exact notready k (L.lt k h1) h2 h3
  cases l with
  |cons j l=>
   obtain⟨h1,h2,h3,_,_⟩:=z2b1 hplan;exact(notready j h1 (fun h=>h2 (L.sub j h)) (fun k hk=>alld k (h3 k hk))).elim
  |nil=>
   simp only[dGo,Option.some.injEq,Prod.mk.injEq] at hgo;obtain⟨rfl,rfl,rfl⟩:=hgo;refine⟨m,L.ext,⟨L.asize,fun t=>?_,L.defers⟩,L.fits,.normal⟩
   rcases L.slots t with⟨k,h1,h2,_⟩|h
   ·exact absurd (alld k h1) h2
   ·exact h
 intro fuel
 induction fuel with
 |zero=>
  intro listed don l a H rs ids m act w L hplan hgo hcnt
  have hr:Region.ready .any ops listed=[]:=by
   apply List.eq_nil_iff_forall_not_mem.2;intro i hi;obtain⟨_,h2,_⟩:=(z2a8 L.size).1 hi
   have:0<listed.countP (fun b=> !b):=by
    rw[Array.countP_pos_iff];exact⟨false,Array.mem_of_getElem? h2,rfl⟩
   omega
  exact⟨hr,fin listed don l a H rs ids m act w L hplan hgo hr⟩
 |succ fuel ih=>
  intro listed don l a H rs ids m act w L hplan hgo hcnt;refine⟨fun hr=>fin listed don l a H rs ids m act w L hplan hgo hr,fun i hi=>?_⟩;obtain⟨h1,h2,h3⟩:=(z2a8 L.size).1 hi;refine Lag.walk hc hok hN h1 l don a H rs ids m L (by rw[h2];simp) h3 hplan hgo ?_;intro don' l' a' H' rs' ids' m' act' w' L' hplan' hgo';refine ih _ don' l' a' H' rs' ids' m' act' w' L' hplan' hgo' ?_;have hil:i<listed.size:=by rw[L.size];exact h1
  have hli:listed[i]=false:=by
   have:=Array.getElem?_eq_getElem hil;rw[h2] at this
   simpa using this.symm
  have hset:listed.setIfInBounds i true=listed.set i true hil:=by simp[Array.setIfInBounds,hil]
  rw[hset,Array.countP_set];simp only[hli]
  have:0<listed.countP (fun b=> !b):=by
   rw[Array.countP_pos_iff];exact⟨false,Array.mem_of_getElem? h2,rfl⟩
  simp
  omega
theorem draw_ok(hm:P.follows .mixedOrders=true)(hc:ze2 P w0 call){N:Nat}(hN:∀o∈ops.toList,z139 N o=true){e1:AExit}{a1:AAct}{h1:AHeap}{id:Nat}(ha:RelAct m N a act)(F:Fits w0 m H w)(h:z374 P call ops a H=some (e1,a1,h1)):(Code.region id ops true).wp P (z494 w0 m N e1 a1 h1) act w:=by
 unfold z374 at h
 split at h
 ·rename_i p hp
  unfold z2ab at hp
  split at hp
  ·rename_i hc'
   simp only[Bool.and_eq_true] at hc';simp only[Option.some.injEq] at hp;subst hp;refine wp_region_any hm (any_ok hc hc'.1 hN ops.size _ [] _ a H [] (fun _=>none) m act _ ?_ hc'.2 h (by simp[Array.countP_replicate]))
   have no:∀i:Nat,(Array.replicate ops.size false)[i]? ≠some true:=by
    intro i hi;rw[Array.getElem?_replicate] at hi
    split at hi<;>cases hi
   exact {
    size := by simp
    sub := fun i h => (no i h).elim
    lt := fun i h => by simp at h
    closedS := fun i h => (no i h).elim
    ord := .nil
    kind := fun i h => by simp at h
    fits := F.drew
    ext := Ext.refl m
    asize := ha.size
    slots := fun t => .inr (ha.tmps t)
    defers := ha.defers
    pend := fun i h => by simp at h
    inj := fun _ _ _ h => by cases h
    idlt := fun _ _ h => by cases h }
  ·cases hp
 ·cases h
end
end
end Go.Proofs.Ytpnccmlajhhpdaa.Abs
