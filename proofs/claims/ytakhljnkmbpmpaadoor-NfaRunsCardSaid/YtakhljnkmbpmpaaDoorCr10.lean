/- What nfaRuns_proved stands on, part 10 of 11. -/
import Derived.Test.YtakhljnkmbpmpaaDoorCr9
namespace Go.Proofs.YtakhljnkmbpmpaaDoor
open Go.RowKit Abs
def z1ee(t:List Nat):Prop:=∀c∈t,c<256
noncomputable def z1ce(P:List Nat→Prop):Bool:= @decide (∃t,z1ee t∧P t) (Classical.propDecidable _)
noncomputable def z119(P:List Nat→Prop)(s:z11)(f:Nat→Bool):Bool:= @decide (∃i t,i≤s.length∧f i=true∧z1ee t∧P (seg s i s.length++t)) (Classical.propDecidable _)
section
variable {P R:List Nat→Prop}{s:z11}{f g:Nat→Bool}{i j k:Nat}{t:List Nat}{w:List Nat}
theorem zd9:z1ce P=true↔∃t,z1ee t∧P t:= @decide_eq_true_iff _ (Classical.propDecidable _)
theorem z97:z119 P s f=true↔∃i t,i≤s.length∧f i=true∧z1ee t∧P (seg s i s.length++t):= @decide_eq_true_iff _ (Classical.propDecidable _)
theorem z1ed:z1ee []:=fun _ h=>nomatch h
theorem z1a3{a b:List Nat}:z1ee (a++b)↔z1ee a∧z1ee b:=by
 unfold z1ee;constructor
 ·exact fun h=>⟨fun c hc=>h c (List.mem_append_left _ hc),fun c hc=>h c (List.mem_append_right _ hc)⟩
 ·rintro ⟨ha, hb⟩ c hc
  rcases List.mem_append.1 hc with h|h
  ·exact ha c h
  ·exact hb c h
theorem z2f7:z1ce (fun s=>s=[])=true:=zd9.2 ⟨[],z1ed,rfl⟩
theorem any_cat:z1ce (Cat P R)=(z1ce P&&z1ce R):=by
 refine z92 ?_;rw[Bool.and_eq_true,zd9,zd9,zd9];constructor
 ·rintro ⟨_, h, a, b, rfl, ha, hb⟩
  obtain⟨h1,h2⟩:=z1a3.1 h;exact⟨⟨a,h1,ha⟩,b,h2,hb⟩
 ·rintro ⟨⟨a, h1, ha⟩, b, h2, hb⟩
  exact⟨a++b,z1a3.2 ⟨h1,h2⟩,a,b,rfl,ha,hb⟩
theorem any_or:z1ce (fun u=>P u∨R u)=(z1ce P||z1ce R):=by
 refine z92 ?_;rw[Bool.or_eq_true,zd9,zd9,zd9];constructor
 ·rintro ⟨t, h, h1 | h1⟩
  ·exact .inl ⟨t,h,h1⟩
  ·exact .inr ⟨t,h,h1⟩
 ·rintro (⟨t, h, h1⟩ | ⟨t, h, h1⟩)
  ·exact⟨t,h,.inl h1⟩
  ·exact⟨t,h,.inr h1⟩
theorem any_false:z1ce (fun _=>False)=false:=by
 cases h:z1ce (fun _=>False) with
 |false=>rfl
 |true=>
  obtain⟨_,_,h⟩:=zd9.1 h;exact h.elim
theorem any_opt:z1ce (fun u=>u=[]∨P u)=true:=by
 rw[any_or,z2f7,Bool.true_or]
theorem any_plus:z1ce (Plus P)=z1ce P:=by
 refine z92 ?_;rw[zd9,zd9];constructor
 ·rintro ⟨t, h, k⟩
  cases k with
  |one k=>exact⟨t,h,k⟩
  |more k _=>exact⟨_,(z1a3.1 h).1,k⟩
 ·exact fun ⟨t,h,k⟩=>⟨t,h,.one k⟩
theorem any_set(hw:WordsOk w):z1ce (fun s=>∃c,s=[c]∧inW w c=true)=decide (w≠zeroW):=by
 refine z92 ?_;rw[zd9,decide_eq_true_eq];constructor
 ·rintro ⟨_, _, c, rfl, h⟩ rfl
  rw[z374] at h;cases h
 ·intro h
  apply Classical.byContradiction;intro hn;refine h (z416 hw z3b fun i hi=>?_);rw[z374];cases hc:inW w i with
  |false=>rfl
  | true => exact absurd ⟨[i], fun c h => by
    cases List.mem_singleton.1 h
    exact hi,i,rfl,hc⟩ hn
theorem z440{a b:List Nat}(hi:i≤s.length)(h:seg s i s.length++t=a++b):(∃t1,a=seg s i s.length++t1∧t=t1++b)∨∃k,i≤k∧k≤s.length∧a=seg s i k∧b=seg s k s.length++t:=by
 rcases List.append_eq_append_iff.1 h with⟨x,h1,h2⟩|⟨x,h1,h2⟩
 ·exact .inl ⟨x,h1,h2⟩
 ·obtain ⟨k, g1, g2, e1, e2⟩ := z235 hi (Nat.le_refl _) h1
  exact .inr ⟨k,g1,g2,e1.symm,by rw[e2];exact h2⟩
theorem z44e:z119 (Cat P R) s f=(z119 P s f&&z1ce R||z119 R s (z6a P s f)):=by
 refine z92 ?_;rw[Bool.or_eq_true,Bool.and_eq_true,z97,z97,z97,zd9];constructor
 ·rintro ⟨i, t, hi, hf, ht, a, b, e, ha, hb⟩
  rcases z440 hi e with⟨t1,rfl,rfl⟩|⟨k,h1,h2,rfl,rfl⟩
  ·obtain ⟨g1, g2⟩ := z1a3.1 ht
   exact .inl ⟨⟨i,t1,hi,hf,g1,ha⟩,b,g2,hb⟩
  ·exact .inr ⟨k,t,h2,z49.2 ⟨i,h1,hf,ha⟩,ht,hb⟩
 ·rintro (⟨⟨i, t, hi, hf, ht, ha⟩, b, h2, hb⟩ | ⟨k, t, hk, he, ht, hb⟩)
  ·exact⟨i,t++b,hi,hf,z1a3.2 ⟨ht,h2⟩,_,b,(List.append_assoc _ _ _).symm,ha,hb⟩
  ·obtain ⟨i, hi, hf, ha⟩ := z49.1 he
   exact⟨i,t,by omega,hf,ht,_,_,by rw[z263 hi hk,List.append_assoc],ha,hb⟩
theorem z2a0:z119 (fun s=>s=[]) s f=f s.length:=by
 refine z92 ?_;rw[z97];constructor
 ·rintro ⟨i, t, hi, hf, _, e⟩
  have:=congrArg List.length e;rw[List.length_append,z1d3 hi (Nat.le_refl _),List.length_nil] at this;rw[show s.length=i by omega];exact hf
 ·exact fun h=>⟨s.length,[],Nat.le_refl _,h,z1ed,by rw[z135];rfl⟩
theorem z405:z119 (fun u=>P u∨R u) s f=(z119 P s f||z119 R s f):=by
 refine z92 ?_;rw[Bool.or_eq_true,z97,z97,z97];constructor
 ·rintro ⟨i, t, hi, hf, ht, h | h⟩
  ·exact .inl ⟨i,t,hi,hf,ht,h⟩
  ·exact .inr ⟨i,t,hi,hf,ht,h⟩
 ·rintro (⟨i, t, hi, hf, ht, h⟩ | ⟨i, t, hi, hf, ht, h⟩)
  ·exact⟨i,t,hi,hf,ht,.inl h⟩
  ·exact⟨i,t,hi,hf,ht,.inr h⟩
theorem z49c:z119 (fun _=>False) s f=false:=by
 cases h:z119 (fun _=>False) s f with
 |false=>rfl
 |true=>
  obtain⟨_,_,_,_,_,h⟩:=z97.1 h;exact h.elim
theorem part_last:z119 (Cat P (fun s=>s=[])) s f=z119 P s f:=by
 rw[z44e,z2f7,Bool.and_true,z2a0];cases h:z6a P s f s.length with
 |false=>rw[Bool.or_false]
 |true=>
  obtain⟨i,hi,hf,hp⟩:=z49.1 h;rw[z97.2 ⟨i,[],hi,hf,z1ed,by rw[List.append_nil];exact hp⟩];rfl
theorem z441{m:Nat}(hm:s.length=m+1)(h:m<s.length):seg s m s.length=[(s[m]).toNat]:=by
 unfold seg;rw[List.drop_eq_getElem_cons h,show s.length - m=1 by omega];rfl
theorem part_set0(hs:s.length=0):z119 (fun s=>∃c,s=[c]∧inW w c=true) s f=(f 0&&z1ce (fun s=>∃c,s=[c]∧inW w c=true)):=by
 refine z92 ?_;rw[Bool.and_eq_true,z97,zd9];constructor
 ·rintro ⟨i, t, hi, hf, ht, h⟩
  obtain rfl:i=0:=by omega
  rw[hs,z135] at h;exact⟨hf,t,ht,h⟩
 ·rintro ⟨hf, t, ht, h⟩
  exact⟨0,t,by omega,hf,ht,by rw[hs,z135];exact h⟩
theorem part_set1{m:Nat}(hm:s.length=m+1)(h:m<s.length):z119 (fun s=>∃c,s=[c]∧inW w c=true) s f=(f (m+1)&&z1ce (fun s=>∃c,s=[c]∧inW w c=true)||f m&&inW w (s[m]).toNat):=by
 refine z92 ?_;rw[Bool.or_eq_true,Bool.and_eq_true,Bool.and_eq_true,z97,zd9];constructor
 ·rintro ⟨i, t, hi, hf, ht, c, e, hc⟩
  have:=congrArg List.length e;rw[List.length_append,z1d3 hi (Nat.le_refl _)] at this;have h1:s.length - i+t.length=1:=this
  by_cases h2:i=m+1
  ·subst h2
   rw[←hm,z135] at e;exact .inl ⟨hf,t,ht,c,e,hc⟩
  ·obtain rfl : i = m := by omega
   rw[z441 hm h] at e
   cases e
   exact .inr ⟨hf,hc⟩
 ·rintro (⟨hf, t, ht, h1⟩ | ⟨hf, hc⟩)
  ·exact⟨m+1,t,by omega,hf,ht,by rw[hm,z135];exact h1⟩
  ·exact⟨m,[],by omega,hf,z1ed,_,by rw[z441 hm h];rfl,hc⟩
theorem z3b6(hg:∀i j,i≤j→j≤s.length→g i=true→P (seg s i j)→g j=true){u:List Nat}(h:Plus P u):∀i t,i≤s.length→g i=true→z1ee t→seg s i s.length++t=u→z119 P s g=true:=by
 induction h with
 |one h=>exact fun i t hi hgi ht e=>z97.2 ⟨i,t,hi,hgi,ht,by rw[e];exact h⟩
 |more h _ ih=>
  intro i t hi hgi ht e
  rcases z440 hi e with⟨t1,e1,rfl⟩|⟨k,h1,h2,e1,e2⟩
  ·exact z97.2 ⟨i,t1,hi,hgi,(z1a3.1 ht).1,by rw[←e1];exact h⟩
  ·exact ih k t h2 (hg i k h1 h2 hgi (by rw[←e1];exact h)) ht e2.symm
theorem z2b6(h:f i=true):z6a (z3ef P) s f i=true:=z49.2 ⟨i,Nat.le_refl _,h,.inl (z135 i)⟩
theorem star_go(h:z6a (z3ef P) s f k=true)(hk:k≤s.length)(hp:P (seg s k s.length++t)):∃i,i≤s.length∧f i=true∧Plus P (seg s i s.length++t):=by
 obtain⟨i,hi,hf,h⟩:=z49.1 h;refine⟨i,by omega,hf,?_⟩;rw[z263 hi hk,List.append_assoc]
 rcases h with h|h
 ·rw [h]
  exact .one hp
 ·exact h.snoc hp
theorem z3bb:z119 (Plus P) s f=z119 P s (z6a (z3ef P) s f):=by
 refine z92 ⟨fun h=>?_,fun h=>?_⟩
 ·obtain ⟨i, t, hi, hf, ht, hp⟩ := z97.1 h
  exact z3b6 (fun i j hij hj hgi hP=>z2b5 hgi hij hP) hp i t hi (z2b6 hf) ht rfl
 ·obtain ⟨k, t, hk, hg, ht, hp⟩ := z97.1 h
  obtain⟨i,hi,hf,h⟩:=star_go hg hk hp;exact z97.2 ⟨i,t,hi,hf,ht,h⟩
theorem part_star:z119 (fun s=>s=[]∨Plus P s) s f=(z6a (z3ef P) s f s.length||z119 P s (z6a (z3ef P) s f)):=by
 rw[z405,z2a0,z3bb];cases h:f s.length with
 |true=>rw[z2b6 h,Bool.true_or]
 |false=>
  rw[Bool.false_or];cases h2:z6a (z3ef P) s f s.length with
  |false=>rw[Bool.false_or]
  |true=>
   rw[Bool.true_or];obtain⟨i,hi,hf,hs⟩:=z49.1 h2
   rcases hs with hs|hs
   ·have := congrArg List.length hs
    rw[z1d3 hi (Nat.le_refl _),List.length_nil] at this;rw[show i=s.length by omega,h] at hf;cases hf
   ·exact z3b6 (fun i j hij hj hgi hP=>z2b5 hgi hij hP) hs i [] hi (z2b6 hf) z1ed (List.append_nil _)
noncomputable def z1df(s:z11):List Nd→(Nat→Bool)→Bool
 |[],_=>false
 |k::ks,f=>z119 (z1a5 k) s f&&z1ce (z342 ks)||z1df s ks (z6a (z1a5 k) s f)
theorem z31b:∀{ks:List Nd} {f:Nat→Bool},ks≠[]→z1df s ks f=z119 (z342 ks) s f
 |[],_,h=>absurd rfl h
 |[k],f,_=>by
  rw[z1df,z1df,z342,z342,z2f7,Bool.and_true,Bool.or_false];exact part_last.symm
 |k::k2::ks,f,_=>by
  have e:z342 (k::k2::ks)=Cat (z1a5 k) (z342 (k2::ks)):=by rw[z342]
  rw[z1df,z31b (List.cons_ne_nil _ _),e,z44e]
end
theorem dead_lang{t:Nd}(h:(ze7 t 0).2≤64)(s:z11):z22a (z7f t) (z1ac (z7f t) (false,0) s)= !z1ce (fun u=>z1a5 t (s.map UInt8.toNat++u)):=by
 have hrun:∀(u v:z11) (st:Bool×Nat),z1ac (z7f t) st (u++v)=z1ac (z7f t) (z1ac (z7f t) st u) v:=fun u v st=>by
  unfold z1ac;rw[List.foldl_append]
 have hd:∀(v:z11) (st:Bool×Nat),z22a (z7f t) st=true→z22a (z7f t) (z1ac (z7f t) st v)=true:=by
  intro v
  induction v with
  |nil=>exact fun _ h=>h
  |cons c v ih=>exact fun st h=>ih _ (dead_step h _)
 cases ha:z1ce (fun u=>z1a5 t (s.map UInt8.toNat++u)) with
 |true=>
  obtain⟨u,hu,hl⟩:=zd9.1 ha;obtain⟨v,rfl⟩:=z2a6 u hu;rw[←List.map_append] at hl;have hm:=(z272 h (s++v)).2 hl;cases hx:z22a (z7f t) (z1ac (z7f t) (false,0) s) with
  |false=>rfl
  |true=>
   have h1:=hd v _ hx;rw[←hrun] at h1;have h2:=done_live hm;rw[h1] at h2;cases h2
 |false=>
  cases hx:z22a (z7f t) (z1ac (z7f t) (false,0) s) with
  |true=>rfl
  |false=>
   exfalso
   have hno:∀v:z11,¬z19f (z7f t) (s++v)=true:=by
    intro v hm;have hl:=(z272 h (s++v)).1 hm;rw[List.map_append] at hl
    have hb:z1ee (v.map UInt8.toNat):=fun c hc=>by
     obtain⟨y,_,rfl⟩:=List.mem_map.1 hc;exact y.toNat_lt
    have:z1ce (fun u=>z1a5 t (s.map UInt8.toNat++u))=true:=zd9.2 ⟨v.map UInt8.toNat,hb,hl⟩;rw[ha] at this
    cases this
   have ok:=z2a1 t
   have hlast:∀(v:z11) {m q q':Nat},m<18446744073709551616→m.testBit q=true→Walk (z36d (z7f t)) q (v.map UInt8.toNat) q'→(z7f t).last.testBit q'=true→z277 (z7f t) (z1ac (z7f t) (true,m) v)=true:=by
    intro v m q q' hm hq w hl
    have hb:∀(s:z11) (m:Nat),(z1ac (z7f t) (true,m) s).1=true:=by
     intro s
     induction s with
     |nil=>exact fun _=>rfl
     |cons c s ih=>exact fun m=>ih _
    unfold z277;rw[if_pos (hb v m),decide_eq_true_eq,z47e];exact⟨q',(z3fd ok v hm q').2 ⟨q,hq,w⟩,hl⟩
   have hraw:∀{q:Nat},(z2c1 t).live.testBit q=true→∃(v:z11) (q':Nat),Walk (z36d (z7f t)) q (v.map UInt8.toNat) q'∧(z7f t).last.testBit q'=true:=by
    intro q hq;obtain⟨hs,v,q',hb,w,hl⟩:=z329 hq;obtain⟨v,rfl⟩:=z2a6 v hb;exact⟨v,q',(z2a9 (z1ae t) w hb hl hs).2,hl⟩
   cases s with
   |nil=>
    have hx1:(!(z7f t).empty&&decide ((z7f t).first=0))=false:=hx;cases he:(z7f t).empty with
    |true=>exact hno [] he
    |false=>
     rw[he] at hx1;have hf:(z7f t).first≠0:=of_decide_eq_false hx1;obtain⟨q,hq⟩:=Nat.exists_testBit_of_ne_zero hf;have hq1:((z2c1 t).first&&&(z2c1 t).live).testBit q=true:=hq;rw[Nat.testBit_and,Bool.and_eq_true] at hq1;obtain⟨⟨c,hc,hk⟩,v,q',hb,w,hl⟩:=z329 hq1.2;obtain⟨v,rfl⟩:=z2a6 v hb;obtain⟨i1,i2⟩:=z2a9 (z1ae t) w hb hl ⟨c,hc,hk⟩;refine hno (UInt8.ofNat c::v) ?_;rw[List.nil_append,z328 ok];have ec:(UInt8.ofNat c).toNat=c:=UInt8.toNat_ofNat_of_lt' hc;rw[List.map_cons,ec];exact⟨q,q',hq,(z313 (z1ae t) hc).2 ⟨hk,hq1.2⟩,hl,i2⟩
   |cons c s=>
    have hst:(z1ac (z7f t) (false,0) (c::s)).1=true∧(z1ac (z7f t) (false,0) (c::s)).2 <18446744073709551616:=by
     have:∀(s:z11) (st:Bool×Nat),st.1=true→st.2<18446744073709551616→(z1ac (z7f t) st s).1=true∧(z1ac (z7f t) st s).2 <18446744073709551616:=by
      intro s
      induction s with
      |nil=>exact fun _ h1 h2=>⟨h1,h2⟩
      |cons c s ih=>exact fun st h1 h2=>ih _ rfl (z194 ok _ _)
     exact this s _ rfl (z194 ok _ _)
    obtain⟨h1,h2⟩:=hst
    have hne:(z1ac (z7f t) (false,0) (c::s)).2≠0:=by
     unfold z22a at hx;rw[if_pos h1] at hx;exact of_decide_eq_false hx
    obtain⟨q,hq⟩:=Nat.exists_testBit_of_ne_zero hne;have hlive:=run_live (z1ae t) (c::s) (st:=(false,0)) (fun h=>by cases h) (.inl (List.cons_ne_nil _ _)) q hq;obtain⟨v,q',w,hl⟩:=hraw hlive;refine hno v ?_;unfold z19f;rw[hrun,show z1ac (z7f t) (false,0) (c::s)=(true,(z1ac (z7f t) (false,0) (c::s)).2) from Prod.ext h1 rfl];exact hlast v h2 hq w hl
theorem z250{P:Program}{e:TypeId}(he:z4a5 P e=1)(ws zs:List Nat)(hl:ws.length=zs.length):∀(m d i:Nat),m+1<d→i+m=ws.length→z1b8 P d e 1 m i (z1c ws) (z1c zs)=some (decide (ws.drop i=zs.drop i))
 |_,0,_,hd,_=>by omega
 |0,_+1,i,_,hi=>by
  unfold z1b8;rw[List.drop_eq_nil_of_le (by omega),List.drop_eq_nil_of_le (by omega)];rfl
 |m+1,d+1,i,hd,hi=>by
  have cell:∀(us:List Nat),us.length=ws.length→z21c P e (z1c us) (i*1)=some (.int .u64 ((us.getD i 0:Nat):Int)):=by
   intro us hu;have:=z148 (pre:=[]) (post:=[]) (w:=us) (i:=i) (by omega);exact z49e (P:=P) (t:=e) (l:=z1c us) (o:=i*1) (by omega) (by simpa using this)
  have h1:=cell ws rfl;have h1':=cell zs hl.symm
  have hd1:ws.drop i=ws.getD i 0::ws.drop (i+1):=by
   rw[List.drop_eq_getElem_cons (show i<_ by omega),List.getD_eq_getElem?_getD,List.getElem?_eq_getElem (show i<_ by omega)];rfl
  have hd2:zs.drop i=zs.getD i 0::zs.drop (i+1):=by
   rw[List.drop_eq_getElem_cons (show i<_ by omega),List.getD_eq_getElem?_getD,List.getElem?_eq_getElem (show i<_ by omega)];rfl
  cases d with
  |zero=>omega
  |succ d=>
   have h2:eqA P (d+1) e (.int .u64 ((ws.getD i 0:Nat):Int)) (.int .u64 ((zs.getD i 0:Nat):Int))=some (((ws.getD i 0:Nat):Int) == ((zs.getD i 0:Nat):Int)):=eqA_cell (P:=P) (d:=d) (t:=e) he.symm (z4b5 _ _ _);unfold z1b8;rw[h1,h1'];dsimp only;rw[h2]
   by_cases hh:ws.getD i 0=zs.getD i 0
   ·rw [hd1, hd2, hh, beq_self_eq_true]
    dsimp only;rw[z250 he ws zs hl m (d+1) (i+1) (by omega) (by omega)]
    congr 1
    simp
   ·have hb : (((ws.getD i 0 : Nat) : Int) == ((zs.getD i 0 : Nat) : Int)) = false := by
     rw[beq_eq_false_iff_ne];omega
    rw[hb];dsimp only;rw[decide_eq_false];rw[hd1,hd2];intro hc;exact hh (List.cons.inj hc).1
theorem eqSetW{w:List Nat}(hw:WordsOk w):z18f Tryd.prog z396 (.agg (z1c w)) (.agg (z1c zeroW))=some (decide (w=zeroW)):=by
 have h0:Tryd.prog.eqGuardType Tryd.prog.depth z396=false:=by kernel_rfl
 have h1:Tryd.prog.underlying z396=some (.array 4 29):=by kernel_rfl
 have h2:(Tryd.prog.info? 29).isSome=true:=by kernel_rfl
 have h3:z4a5 Tryd.prog 29=1:=by kernel_rfl
 have h4:Tryd.prog.cellsOf 29=1:=by kernel_rfl
 show (if Tryd.prog.eqGuardType Tryd.prog.depth z396 then none else eqA Tryd.prog 2000 z396 (.agg (z1c w)) (.agg (z1c zeroW)))=some _;rw[h0,if_neg (by decide)];unfold eqA;rw[h1];dsimp only;obtain⟨z,hz⟩:=Option.isSome_iff_exists.1 h2;rw[hz];dsimp only;rw[h4];exact z250 h3 w zeroW hw.len 4 1999 0 (by omega) (by rw[hw.len])
def Kds(h:AHeap)(v:AV)(K:List (List AV)):Prop:=z249 v=some (K.length:Int)∧∀(i:Nat) (hi:i<K.length),∃b o,b<h.next∧ze8 6 v (i:Int)=some (.ptr b o)∧z15 h 6 (.ptr b o)=some K[i]
theorem Kds.keep{h h':AHeap}{v:AV}{K:List (List AV)}(k:Kds h v K)(t:Tch [] h h'):Kds h' v K:=by
 refine⟨k.1,fun i hi=>?_⟩;obtain⟨b,o,h1,h2,h3⟩:=k.2 i hi;refine⟨b,o,Nat.lt_of_lt_of_le h1 t.1,h2,?_⟩;rw[←h3];show z68 h' b o 6=z68 h b o 6;unfold z68;rw[t.2.2 b h1 (by simp)]
theorem z375{h:AHeap}{kc:List (List AV)}{kv:AV}{T:List z9e}(g:GrowT z17 6 kc kv T)(k:RowsAt h T):Kds h kv kc:=by
 refine⟨g.len,fun i hi=>?_⟩;obtain⟨b,h1,h2,h3⟩:=(z13f g k).row hi;exact⟨b,_,h1,h2,h3⟩
def SomeW(n D:Nat)(h0:AHeap)(c:List AV)(P:List Nat→Prop):Prop:=∀h:AHeap,Tch [] h0 h→z14 n D 50 [.agg c] h=some (.ret (.bool (z1ce P)),h)
inductive KidS (n D:Nat) (h0:AHeap):List (List AV)→List Nd→Prop
 |nil:KidS n D h0 [] []
 |cons {c:List AV} {t:Nd} {l:List (List AV)} {ks:List Nd} (e:SomeW n D h0 c (z1a5 t)) (k:KidS n D h0 l ks):KidS n D h0 (c::l) (t::ks)
theorem KidS.keep{n D:Nat}{h0 h1:AHeap}{l:List (List AV)}{ks:List Nd}(k:KidS n D h0 l ks)(t:Tch [] h0 h1):KidS n D h1 l ks:=by
 induction k with
 |nil=>exact .nil
 |cons e _ ih=>exact .cons (fun h a=>e h (t.trans a)) ih
section
variable {n d p op:Nat}{h h0:AHeap}{w:List Nat}{kv:AV}{K:List (List AV)}{T:List z9e}
theorem z3de{h:AHeap}(kn:RowH h p z17 (z25 op w kv))(hw:WordsOk w):z9 h (.ptr p (0+5))=some kv:=y10 kn (by
 obtain⟨a,b,c,d,rfl⟩:=z2a8 hw;rfl)
theorem z316{k24:AHeap→R}(g:Kds h kv K)(kn:RowH h p z17 (z25 op w kv))(hp:p<h.next)(hw:WordsOk w)(hKn:K.length<1000000)(hk:∀H,Tch [] h H→Wp (k24 H) fun r h'=>r=.ret (.bool true)∧Tch [] h h'):
  ∀(l:List (List AV)) (ks:List Nd) (i fu:Nat) (H:AHeap),KidS n d h l ks→K.drop i=l→K.length - i<fu→Tch [] h H→Wp (z110 (z14 n d) (.ptr p 0) k24 fu (i:Int) H) fun r h'=>r=.ret (.bool (z1ce (z342 ks)))∧Tch [] h h'
 |_,_,_,0,_,_,_,hf,_=>by omega
 |l,ks,i,fu+1,H,kk,d1,hf,t=>by
  rw[z1d9];unfold z13b;have c5:=z3de (kn.tch t hp (by simp)) hw;have hlen:=g.1
  cases kk with
  |nil=>
   have:=z186 d1
   repeat(first|(with_reducible first|refine Wp.lett ?_|(apply Wp.obind;first|exact c5|exact hlen|exact ze _ _ _))|((with_reducible refine y7 ?_ ?_;apply decide_eq_false);omega))
   rw[z342,z2f7];exact hk H t
  |cons e k=>
   rename_i c t1 m ks;obtain⟨hi1,hc,d2⟩:=z149 d1;obtain⟨p1,o1,_,x1,y1⟩:=(g.keep t).2 i hi1;rw[hc] at y1;have e1:=e H t;rw[z342,any_cat];cases hA:z1ce (z1a5 t1) with
   |false=>
    rw[hA] at e1
    repeat(first|(with_reducible first|refine Wp.lett ?_|(apply Wp.obind;first|exact c5|exact hlen|exact x1|exact y1|exact z6 _|exact ze _ _ _))|((with_reducible refine y8 ?_ ?_);first|(with_reducible exact Bool.not_false)|((with_reducible apply decide_eq_true);omega))|(with_reducible apply Wp.callN;assumption))
    exact Wp.ret ⟨rfl,t⟩
   |true=>
    rw[hA] at e1
    repeat(first|((with_reducible refine yf ?_ ?_ ?_);omega;omega)|(with_reducible first|refine Wp.lett ?_|(apply Wp.obind;first|exact c5|exact hlen|exact x1|exact y1|exact z6 _|exact ze _ _ _))|((with_reducible refine y8 ?_ ?_;apply decide_eq_true);omega)|(with_reducible first|(refine y7 ?_ ?_;exact Bool.not_true)|(apply Wp.callN;assumption)))
    rw[show (i:Int)+1=((i+1:Nat):Int) by omega,Bool.true_and];exact z316 g kn hp hw hKn hk m ks (i+1) fu H k d2 (by omega) t
theorem z315{k24:AHeap→R}(g:Kds h kv K)(kn:RowH h p z17 (z25 op w kv))(hp:p<h.next)(hw:WordsOk w)(hKn:K.length<1000000)(hk:∀H,Tch [] h H→Wp (k24 H) fun r h'=>r=.ret (.bool false)∧Tch [] h h'):
  ∀(l:List (List AV)) (ks:List Nd) (i fu:Nat) (H:AHeap),KidS n d h l ks→K.drop i=l→K.length - i<fu→Tch [] h H→Wp (z10f (z14 n d) (.ptr p 0) k24 fu (i:Int) H) fun r h'=>r=.ret (.bool (z1ce (z488 ks)))∧Tch [] h h'
 |_,_,_,0,_,_,_,hf,_=>by omega
 |l,ks,i,fu+1,H,kk,d1,hf,t=>by
  rw[z1d8];unfold z13a;have c5:=z3de (kn.tch t hp (by simp)) hw;have hlen:=g.1
  cases kk with
  |nil=>
   have:=z186 d1
   repeat(first|(with_reducible first|refine Wp.lett ?_|(apply Wp.obind;first|exact c5|exact hlen|exact ze _ _ _))|((with_reducible refine y7 ?_ ?_;apply decide_eq_false);omega))
   rw[z488,any_false];exact hk H t
  |cons e k=>
   rename_i c t1 m ks;obtain⟨hi1,hc,d2⟩:=z149 d1;obtain⟨p1,o1,_,x1,y1⟩:=(g.keep t).2 i hi1;rw[hc] at y1;have e1:=e H t;rw[z488,any_or];cases hA:z1ce (z1a5 t1) with
   |true=>
    rw[hA] at e1
    repeat(first|(with_reducible first|refine Wp.lett ?_|(apply Wp.obind;first|exact c5|exact hlen|exact x1|exact y1|exact z6 _|exact ze _ _ _))|((with_reducible refine y8 ?_ ?_);first|(with_reducible rfl)|((with_reducible apply decide_eq_true);omega))|(with_reducible apply Wp.callN;assumption))
    exact Wp.ret ⟨rfl,t⟩
   |false=>
    rw[hA] at e1
    repeat(first|((with_reducible refine yf ?_ ?_ ?_);omega;omega)|(with_reducible first|refine Wp.lett ?_|(apply Wp.obind;first|exact c5|exact hlen|exact x1|exact y1|exact z6 _|exact ze _ _ _))|((with_reducible refine y8 ?_ ?_;apply decide_eq_true);omega)|(with_reducible first|(refine y7 ?_ ?_;rfl)|(apply Wp.callN;assumption)))
    rw[show (i:Int)+1=((i+1:Nat):Int) by omega,Bool.false_or];exact z315 g kn hp hw hKn hk m ks (i+1) fu H k d2 (by omega) t
theorem z43c{ks:List Nd}{H:AHeap}(g:Kds h kv K)(hv:kv.one=true)(hw:WordsOk w)(hKn:K.length<n)(hKm:K.length<1000000)(kk:KidS n d h K ks)(t:Tch [] h H):z14 n (d+1) 50 [.agg (z25 3 w kv)] H=some (.ret (.bool (z1ce (z342 ks))),H):=by
 apply Wp.eq;rw[z27c];refine Wp.gc ?_
 suffices hK:Wp (zdc (z14 n d) n (z25 3 w kv) H) fun r h'=>r=.ret (.bool (z1ce (z342 ks)))∧Tch [] H h' from hK.mono fun r h' ⟨e,t⟩=>⟨t.above,by rw[e];rfl,e,rfl⟩
 unfold zdc;have M:=Mem.nil [] H;refine y16 M (z57 hv) fun h1 M1=>?_;have c0:z9 h1 (.ptr H.next (0+0))=some (.int .i64 3):=y10 M1.at0.1 rfl
 repeat(first|(with_reducible first|refine y12 (fun _ _=>?_)|refine Wp.lett ?_|(apply Wp.obind;first|exact c0|exact z5 _ _|exact ze _ _ _))|((with_reducible refine y8 ?_ ?_;apply z28);omega)|((with_reducible refine y7 ?_ ?_;apply z2e);omega))
 rename_i k24 ek24;have tt:=t.trans M1.tch;refine(z316 (h:=h1) (k24:=k24) (g.keep tt) M1.at0.1 M1.at0.2.1 hw hKm (fun H' tH'=>?_) K ks 0 n h1 (kk.keep tt) List.drop_zero (by omega) (Tch.refl _ _)).mono fun r h' ⟨e,t⟩=>⟨e,M1.tch.trans t⟩;rw[ek24];exact Wp.ret ⟨rfl,tH'⟩
end
mutual
theorem some_ok:∀(t:Nd) {c:List AV} {T:List z9e} {D n:Nat} {h:AHeap},z2fe t→NodeT t c T→RowsAt h T→t.sz+3≤D→t.sz+1000<n→t.sz<1000000→SomeW n D h c (z1a5 t)
 | .mk op w ks,_,_,0,n,h,_,_,_,hD,_,_=>by omega
 | .mk op w ks,c,T,D+1,n,h,⟨on1,on2⟩,k1,r1,hD,hn,hz=>by
  intro H tH;rw[Nd.sz] at hD hn hz;have hsl:=z2b2 ks
  cases k1 with
  |mk hw g1 ks1=>
   rename_i kc1 kv1 T01 T11;have hl1:=ks1.len;have kk:=(z34c ks (D:=D) (n:=n) on2 ks1 r1.right (by omega) (by omega) (by omega)).keep tH;have rH:=r1.left.keep tH;have gk:=z375 g1 rH
   by_cases e3:op=3
   ·subst e3
    have:=z43c (d:=D) (n:=n) (H:=H) gk g1.one.1 hw (by omega) (by omega) kk (Tch.refl _ _);rw[this,z1a5,if_neg (by decide),if_pos rfl]
   apply Wp.eq;rw[z27c];refine Wp.gc ?_
   suffices hK:Wp (zdc (z14 n D) n (z25 op w kv1) H) fun r h'=>r=.ret (.bool (z1ce (z1a5 (.mk op w ks))))∧Tch [] H h' from hK.mono fun r h' ⟨e,t⟩=>⟨t.above,by rw[e];rfl,e,rfl⟩
   unfold zdc;have M:=Mem.nil [] H;refine y16 M (z57 g1.one.1) fun h1 M1=>?_;have c0:z9 h1 (.ptr H.next (0+0))=some (.int .i64 (op:Int)):=y10 M1.at0.1 rfl;have c5:=z3de M1.at0.1 hw;rw[z1a5]
   by_cases e2:op=2
   ·subst e2
    rw[if_pos rfl]
    have e4:z15 h1 4 (.ptr H.next (0+1))=some (z1c w):=by
     have:=M1.at0.1.ld (o:=0+1) (n:=4) (by show 0+1+4≤(z25 2 w kv1).length;simp only[z25,List.length_cons,List.length_append,z38,hw.len,List.length_nil];omega);rw[this];show some ((z1c w++[kv1]).take 4)=_;rw[List.take_left' (by rw[z38,hw.len])]
    have b0:z27a Tryd.prog 31 []=some (z1c zeroW):=by kernel_rfl
    have q0:=eqSetW hw
    repeat(first|(with_reducible first|refine Wp.lett ?_|(apply Wp.obind;first|exact c0|exact e4|exact b0|exact q0|exact z5 _ _|exact ze _ _ _))|((with_reducible refine y8 ?_ ?_;apply z28);omega))
    refine Wp.ret ⟨?_,M1.tch⟩;rw[any_set hw]
    simp
   rw[if_neg e2,if_neg e3]
   by_cases e4:op=4
   ·subst e4
    rw[if_pos rfl]
    repeat(first|(with_reducible first|refine y12 (fun _ _=>?_)|refine Wp.lett ?_|(apply Wp.obind;first|exact c0|exact z5 _ _|exact ze _ _ _))|((with_reducible refine y8 ?_ ?_;apply z28);omega)|((with_reducible refine y7 ?_ ?_;apply z2e);omega))
    rename_i k53 ek53;refine(z315 (h:=h1) (k24:=k53) (gk.keep M1.tch) M1.at0.1 M1.at0.2.1 hw (by omega) (fun H' tH'=>?_) kc1 ks 0 n h1 (kk.keep M1.tch) List.drop_zero (by omega) (Tch.refl _ _)).mono fun r h' ⟨e,t⟩=>⟨e,M1.tch.trans t⟩;rw[ek53];exact Wp.ret ⟨rfl,tH'⟩
   rw[if_neg e4]
   by_cases e6:op=6
   ·subst e6
    rw[if_neg (by decide),if_pos rfl];have hone:=on1.2 (by omega)
    match ks,hone,kk,hl1 with
    |[t1],_,kk,hl1=>
     match kc1,hl1,kk,gk with
     |[c1],_,.cons e _,gk=>
      obtain⟨p1,o1,_,x1,y1⟩:=(gk.keep M1.tch).2 0 (by simp);have x2:ze8 6 kv1 0=some (.ptr p1 o1):=x1;have y2:z15 h1 6 (.ptr p1 o1)=some c1:=y1;have e1:=e h1 M1.tch
      repeat(first|(with_reducible first|refine Wp.lett ?_|(apply Wp.obind;first|exact c0|exact c5|exact x2|exact y2|exact z5 _ _|exact z6 _|exact ze _ _ _))|((with_reducible refine y8 ?_ ?_;apply z28);omega)|((with_reducible refine y7 ?_ ?_;apply z2e);omega)|(with_reducible apply Wp.callN;assumption))
      refine Wp.ret ⟨?_,M1.tch⟩;rw[any_plus,z2fd]
   ·repeat (first | (with_reducible first | refine Wp.lett ?_ | (apply Wp.obind; first | exact c0 | exact z5 _ _ | exact ze _ _ _)) | ((with_reducible refine y7 ?_ ?_; apply z2e); omega))
    refine Wp.ret ⟨?_,M1.tch⟩;rw[if_neg e6]
    by_cases e5:op=5
    ·rw[if_pos e5,any_opt]
    ·rw [if_neg e5]
     by_cases e7:op=7
     ·rw[if_pos e7,any_opt]
     ·rw[if_neg e7,z2f7]
theorem z34c:∀(ks:List Nd) {k1:List (List AV)} {T:List z9e} {D n:Nat} {h:AHeap},oneL ks→KidsT ks k1 T→RowsAt h T→szL ks+3≤D→szL ks+1000<n→szL ks<1000000→KidS n D h k1 ks
 |[],_,_,_,_,_,_,k1,_,_,_,_=>by
  cases k1
  exact .nil
 |t::ks,_,_,D,n,h,⟨p1,p2⟩,k1,r1,hD,hn,hN=>by
  rw[szL] at hD hn hN
  cases k1 with
  |cons a1 b1=>exact .cons (some_ok t p1 a1 r1.left (by omega) (by omega) (by omega)) (z34c ks p2 b1 r1.right (by omega) (by omega) (by omega))
end
def PartW(n D:Nat)(s:z11)(h0:AHeap)(c:List AV)(P:List Nat→Prop):Prop:=∀(f:Nat→Bool) (v:AV) (h:AHeap),Tch [] h0 h→Tr h v (s.length+1) f→
 ∃h',z14 n D 34 [.agg c,z12 s,v] h=some (.ret (.bool (z119 P s f)),h')∧Tch [] h h'
inductive KidPt (n D:Nat) (s:z11) (h0:AHeap):List (List AV)→List Nd→Prop
 |nil:KidPt n D s h0 [] []
 |cons {c:List AV} {t:Nd} {l:List (List AV)} {ks:List Nd} (e:PartW n D s h0 c (z1a5 t)) (k:KidPt n D s h0 l ks):KidPt n D s h0 (c::l) (t::ks)
theorem KidPt.keep{n D:Nat}{s:z11}{h0 h1:AHeap}{l:List (List AV)}{ks:List Nd}(k:KidPt n D s h0 l ks)(t:Tch [] h0 h1):KidPt n D s h1 l ks:=by
 induction k with
 |nil=>exact .nil
 |cons e _ ih=>exact .cons (fun f v h a b=>e f v h (t.trans a) b) ih
theorem idx_sl6{b o m i:Nat}(h:i<m):ze8 6 (.sl b o m 6) (i:Int)=some (.ptr b (o+i*6)):=by
 have e:Nat.blt i m=true:=by simpa using h
 show (match Nat.blt i m with|true=>some (AV.ptr b (o+i*6))|false=>none)=_;rw[e]
theorem bldRest(b o m:Nat):z27a Tryd.prog z17 [(0,.int .i64 3),(2,.sl b o m 6)]=some (z25 3 zeroW (.sl b o m 6)):=by kernel_rfl
theorem bldRest0:z27a Tryd.prog z17 [(0,.int .i64 3),(2,.esl)]=some (z25 3 zeroW .esl):=by kernel_rfl
theorem z48d{H:AHeap}{cb m i:Nat}(hi:i<m):∃vt,z153 Tryd.prog H zf5 (.sl cb 0 m 6) (some (.int .i64 ((i:Int)+1))) none=some (.val vt,H)∧vt.one=true∧z27a Tryd.prog z17 [(0,.int .i64 3),(2,vt)]=some (z25 3 zeroW vt)∧∀(K:List (List AV)),K.length=m→∀h,Kds h (.sl cb 0 m 6) K→Kds h vt (K.drop (i+1)):=by
 have e1:(i:Int)+1=((i+1:Nat):Int):=by omega
 rw[e1]
 by_cases hm:i+1=m
 ·subst hm
  refine⟨.esl,slice_end (e:=z17) (by kernel_rfl) (by kernel_rfl) (by kernel_rfl) (by omega),rfl,bldRest0,fun K hK h k=>?_⟩;rw[List.drop_eq_nil_of_le (by omega)];exact⟨rfl,fun j hj=>absurd hj (Nat.not_lt_zero j)⟩
 ·refine ⟨.sl cb (0 + (i + 1) * 6) (m - (i + 1)) 6, z48f (e := z17) (by kernel_rfl) (by kernel_rfl) (by kernel_rfl) (by omega) (fun h => hm h.1), rfl, bldRest _ _ _, fun K hK h k => ⟨?_, fun j hj => ?_⟩⟩
  ·rw [List.length_drop, hK]
   rfl
  ·rw [List.length_drop] at hj
   obtain⟨b,o,h1,h2,h3⟩:=k.2 (i+1+j) (by omega);rw[idx_sl6 (by omega)] at h2;obtain⟨rfl,rfl⟩:cb=b∧0+(i+1+j)*6=o:=by simpa using h2
   refine⟨cb,_,h1,idx_sl6 (by omega),?_⟩;rw[List.getElem_drop, ←h3]
   congr 2
   omega
section
variable {n d p op:Nat}{h:AHeap}{s:z11}{w:List Nat}{kv v:AV}{K:List (List AV)}{T:List z9e}{f:Nat→Bool}
theorem z31c{k117:AHeap→R}(g:Kds h kv K)(kn:RowH h p z17 (z25 op w kv))(hp:p<h.next)(hw:WordsOk w)(hKn:K.length<1000000)(kf:Tr h v (s.length+1) f)(hk:∀H,Tch [] h H→Wp (k117 H) fun r h'=>r=.ret (.bool false)∧Tch [] h h'):
  ∀(l:List (List AV)) (ks:List Nd) (i fu:Nat) (H:AHeap),KidPt n d s h l ks→K.drop i=l→K.length - i<fu→Tch [] h H→Wp (z10c (z14 n d) s v (.ptr p 0) k117 fu (i:Int) H) fun r h'=>r=.ret (.bool (z119 (z488 ks) s f))∧Tch [] h h'
 |_,_,_,0,_,_,_,hf,_=>by omega
 |l,ks,i,fu+1,H,kk,d1,hf,t=>by
  rw[z1d6];unfold z138;have c5:=z3de (kn.tch t hp (by simp)) hw;have hlen:=g.1
  cases kk with
  |nil=>
   have:=z186 d1
   repeat(first|(with_reducible first|refine Wp.lett ?_|(apply Wp.obind;first|exact c5|exact hlen|exact ze _ _ _))|((with_reducible refine y7 ?_ ?_;apply decide_eq_false);omega))
   rw[z488,z49c];exact hk H t
  |cons e k=>
   rename_i c t1 m ks;obtain⟨hi1,hc,d2⟩:=z149 d1;obtain⟨p1,o1,_,x1,y1⟩:=(g.keep t).2 i hi1;rw[hc] at y1;obtain⟨h2,e1,t2⟩:=e f v H t (kf.keep t);rw[z488,z405];cases hA:z119 (z1a5 t1) s f with
   |true=>
    rw[hA] at e1
    repeat(first|(with_reducible first|refine Wp.lett ?_|(apply Wp.obind;first|exact c5|exact hlen|exact x1|exact y1|exact z6 _|exact ze _ _ _))|((with_reducible refine y8 ?_ ?_);first|(with_reducible rfl)|((with_reducible apply decide_eq_true);omega))|(with_reducible apply Wp.callN;assumption))
    exact Wp.ret ⟨rfl,t.trans t2⟩
   |false=>
    rw[hA] at e1
    repeat(first|((with_reducible refine yf ?_ ?_ ?_);omega;omega)|(with_reducible first|refine Wp.lett ?_|(apply Wp.obind;first|exact c5|exact hlen|exact x1|exact y1|exact z6 _|exact ze _ _ _))|((with_reducible refine y8 ?_ ?_;apply decide_eq_true);omega)|(with_reducible first|(refine y7 ?_ ?_;rfl)|(apply Wp.callN;assumption)))
    rw[show (i:Int)+1=((i+1:Nat):Int) by omega,Bool.false_or];exact z31c g kn hp hw hKn kf hk m ks (i+1) fu h2 k d2 (by omega) (t.trans t2)
theorem z31d{k63:AHeap→R}(g1:GrowT z17 6 K kv T)(rT:RowsAt h T)(kn:RowH h p z17 (z25 op w kv))(hp:p<h.next)(hw:WordsOk w)(hKn:K.length<n)(hKm:K.length<1000000)(hk:∀H,Tch [] h H→Wp (k63 H) fun r h'=>r=.ret (.bool false)∧Tch [] h h'):
  ∀(l:List (List AV)) (ks:List Nd) (i fu:Nat) (v:AV) (f:Nat→Bool) (H:AHeap),KidPt n (d+1) s h l ks→KidE n (d+1) s h l ks→KidS n d h l ks→K.drop i=l→K.length - i<fu→Tch [] h H→Tr H v (s.length+1) f→
   Wp (zdb (z14 n (d+1)) s (.ptr p 0) k63 fu v (i:Int) H) fun r h'=>r=.ret (.bool (z1df s ks f))∧Tch [] h h'
 |_,_,_,0,_,_,_,_,_,_,_,hf,_,_=>by omega
 |l,ks,i,fu+1,v,f,H,kk,ke,ksm,d1,hf,t,kv1=>by
  rw[z1d7];unfold z139;have c5:=z3de (kn.tch t hp (by simp)) hw;have g:=z375 g1 rT;have hlen:=g.1
  cases kk with
  |nil=>
   have:=z186 d1
   repeat(first|(with_reducible first|refine Wp.lett ?_|(apply Wp.obind;first|exact c5|exact hlen|exact ze _ _ _))|((with_reducible refine y7 ?_ ?_;apply decide_eq_false);omega))
   rw[z1df];exact hk H t
  |cons e k=>
   cases ke with
   |cons ee ke=>
    cases ksm with
    |cons es ksm=>
     rename_i c t1 m ks;obtain⟨hi1,hc,d2⟩:=z149 d1;have q5:=fun {h3:AHeap} (tt:Tch [] h h3)=>z3de (kn.tch tt hp (by simp)) hw
     rcases g1.2 with⟨hn,_,_⟩|⟨_,cb,hkv,_⟩
     ·rw [hn] at hi1
      exact absurd hi1 (Nat.not_lt_zero _)
     obtain⟨vt,sl1,vt1,b0,tk⟩:=z48d (H:=H) (cb:=cb) hi1;rw[←hkv] at sl1 tk;have gt:=tk K rfl h g;rw[d2] at gt;have o3:(z25 3 zeroW vt).all AV.one=true:=z57 vt1;have Mx:=Mem.nil [] H
     repeat(first|(with_reducible apply Wp.obind;exact ze _ _ _)|((with_reducible apply y11 Mx);rfl;rfl;((with_reducible assumption));clear Mx;intro _ Mx)|((with_reducible apply yc Mx);clear Mx;intro _ Mx)|((with_reducible refine yf ?_ ?_ ?_);omega;omega)|(with_reducible first|refine Wp.lett ?_|(apply Wp.obind;first|exact c5|exact hlen|exact b0))|((with_reducible refine y8 ?_ ?_;apply decide_eq_true);omega)|(with_reducible apply Wp.outK;exact sl1)|rw[z8])
     have t3:=t.trans Mx.tch;have c53:=q5 t3;obtain⟨p1,o1,_,x1,y1⟩:=(g.keep t3).2 i hi1;rw[hc] at y1;obtain⟨h4,e4,t4⟩:=e f v _ t3 (kv1.keep Mx.tch);have M4:=Mx.keep t4;have t5:=t3.trans t4;have c54:=q5 t5;obtain⟨p2,o2,_,x2,y2⟩:=(g.keep t5).2 i hi1
     have ep:AV.ptr p2 o2=.ptr p1 o1:=by
      rw[x1] at x2;exact(Option.some.inj x2).symm
     rw[hc,ep] at y2;have r4:=RowH.ldAll M4.at0.1 (show (z25 3 zeroW vt).length=6 from rfl);have hml:m.length≤K.length:=by rw[←d2,List.length_drop];omega
     have es4:=z43c (d:=d) (n:=n) (h:=h) (H:=h4) gt vt1 z3b (by omega) (by omega) ksm t5;obtain⟨v6,h6,e6,k6,t6⟩:=ee f v h4 t5 ((kv1.keep Mx.tch).keep t4);have fin:Wp (zdb (z14 n (d+1)) s (.ptr p 0) k63 fu v6 (((i+1:Nat)):Int) h6) fun r h'=>r=.ret (.bool (z1df s ks (z6a (z1a5 t1) s f)))∧Tch [] h h':=z31d g1 rT kn hp hw hKn hKm hk m ks (i+1) fu v6 _ h6 k ke ksm d2 (by omega) (t5.trans t6) k6;rw[show ((i+1:Nat):Int)=(i:Int)+1 by omega] at fin;clear Mx;cases hA:z119 (z1a5 t1) s f with
     |false=>
      rw[hA] at e4
      repeat(first|(with_reducible refine y5 (fun _ _=>?_))|((with_reducible refine yf ?_ ?_ ?_);omega;omega)|(with_reducible first|(apply Wp.obind;first|exact c53|exact x1|exact y1|exact c54|exact y2|exact z6 _|exact ze _ _ _)|(refine y7 ?_ ?_;rfl)|(apply Wp.callN;assumption)|refine yd (by assumption) ?_))
      rw[z1df,hA,Bool.false_and,Bool.false_or];exact fin
     |true=>
      rw[hA] at e4;cases hB:z1ce (z342 ks) with
      |true=>
       rw[hB] at es4
       repeat(with_reducible first|refine y5 (fun _ _=>?_)|(apply Wp.obind;first|exact c53|exact x1|exact y1|exact r4|exact z6 _)|(refine y8 ?_ ?_;rfl)|(apply Wp.callN;assumption)|refine yd (by assumption) ?_)
       rw[z1df,hA,hB];exact Wp.ret ⟨rfl,t5⟩
      |false=>
       rw[hB] at es4
       repeat(first|(with_reducible refine y5 (fun _ _=>?_))|((with_reducible refine yf ?_ ?_ ?_);omega;omega)|(with_reducible first|(apply Wp.obind;first|exact c53|exact x1|exact y1|exact r4|exact c54|exact y2|exact z6 _|exact ze _ _ _)|(refine y8 ?_ ?_;rfl)|(refine y7 ?_ ?_;rfl)|(apply Wp.callN;assumption)|refine yd (by assumption) ?_))
       rw[z1df,hA,hB,Bool.and_false,Bool.false_or];exact fin
end
section
variable {s:z11}{f:Nat→Bool}{w:List Nat}
theorem part_setV:z119 (fun s=>∃c,s=[c]∧inW w c=true) s f=(f s.length&&z1ce (fun s=>∃c,s=[c]∧inW w c=true)||(decide (0<s.length)&&(f (s.length - 1)&&inW w (s.getD (s.length - 1) 0).toNat))):=by
 by_cases h:s.length=0
 ·rw[part_set0 h,decide_eq_false (show ¬0<s.length by omega),Bool.false_and,Bool.or_false,h]
 ·obtain ⟨m, hm⟩ : ∃ m, s.length = m + 1 := ⟨s.length - 1, by omega⟩
  have e1:f s.length=f (m+1):=by rw[hm]
  rw[e1,part_set1 hm (by omega),decide_eq_true (show 0<s.length by omega),Bool.true_and,show s.length - 1=m by omega,List.getD_eq_getElem?_getD,List.getElem?_eq_getElem (show m<_ by omega)];rfl
end
mutual
theorem z44f:∀(t:Nd) {c:List AV} {T:List z9e} {D n:Nat} {s:z11} {h:AHeap},z2fe t→NodeT t c T→RowsAt h T→2*t.sz+4≤D→t.sz+1000<n→t.sz<1000000→s.length<900→z7a TBo h.ex=false→PartW n D s h c (z1a5 t)
 | .mk op w ks,_,_,0,n,s,h,_,_,_,hD,_,_,_,_=>by omega
 | .mk op w ks,c,T,D+1,n,s,h,⟨on1,on2⟩,k1,r1,hD,hn,hz,hl,hx=>by
  intro f v H tH kf;have eS:=some_ok (.mk op w ks) (D:=D) (n:=n) (h:=h) ⟨on1,on2⟩ k1 r1 (by omega) hn hz;rw[Nd.sz] at hD hn hz;have hsl:=z2b2 ks
  cases k1 with
  |mk hw g1 ks1=>
   rename_i kc1 kv1 T01 T11;have hl1:=ks1.len;have hK:∀c∈kc1,c.length=6∧c.all AV.one=true:=g1.1;obtain⟨d,rfl⟩:∃d,D=d+2:=⟨D - 2,by omega⟩;have kp:=(z3bc ks (D:=d+2) (n:=n) (s:=s) on2 ks1 r1.right (by omega) (by omega) (by omega) hl hx).keep tH;have ke:=(z251 ks (D:=d+2) (n:=n) (s:=s) on2 ks1 r1.right (by omega) (by omega) (by omega) hl hx).keep tH;have ksm:=(z34c ks (D:=d+1) (n:=n) on2 ks1 r1.right (by omega) (by omega) (by omega)).keep tH;have rH:=r1.left.keep tH;have gk:=z375 g1 rH;have hxH:z7a TBo H.ex=false:=by rw[tH.2.1];exact hx
   suffices hK:Wp (z14 n (d+2+1) 34 [.agg (z25 op w kv1),z12 s,v] H) fun r h'=>r=.ret (.bool (z119 (z1a5 (.mk op w ks)) s f))∧Tch [] H h' by
    obtain⟨_,h',e,rfl,k⟩:=hK;exact⟨h',e,k⟩
   rw[z39c];unfold z160;have o1:=z57 (op:=op) (w:=w) g1.one.1;have ll:=z1b s;have M:=Mem.nil [] H;refine y16 M o1 fun h1 M1=>?_;have t1:=M1.tch;have kn1:=M1.at0.1;have hp1:=M1.at0.2.1;have hxH1:z7a TBo h1.ex=false:=by rw[M1.ex];exact hxH
   have c0:z9 h1 (.ptr H.next (0+0))=some (.int .i64 (op:Int)):=y10 kn1 rfl;have c5:=z3de kn1 hw;have kf1:=kf.keep t1;obtain⟨pn,i1,cn⟩:=kf1.idx (i:=s.length) (by omega);rw[←ll] at i1;have rH1:=rH.keep t1;have gk1:=gk.keep t1
   by_cases e2:op=2
   ·subst e2
    have hV:=part_setV (s:=s) (f:=f) (w:=w)
    have e4:z15 h1 4 (.ptr H.next (0+1))=some (z1c w):=by
     have:=kn1.ld (o:=0+1) (n:=4) (by show 0+1+4≤(z25 2 w kv1).length;simp only[z25,List.length_cons,List.length_append,z38,hw.len,List.length_nil];omega);rw[this];show some ((z1c w++[kv1]).take 4)=_;rw[List.take_left' (by rw[z38,hw.len])]
    have r6:z15 h1 6 (.ptr H.next 0)=some (z25 2 w kv1):=RowH.ldAll kn1 (by simp only[z25,List.length_cons,List.length_append,z38,hw.len,List.length_nil]);have es:=eS h1 (tH.trans t1);rw[z1a5,if_pos rfl] at es ⊢
    have last:∀(k14:Bool→AHeap→R),(∀b H,k14 b H=some (.ret (.bool b),H))→(f s.length&&z1ce (fun s=>∃c,s=[c]∧inW w c=true))=false→Wp (lett (decide ((z7b s)>0)) fun (t28:Bool)=>ifB t28
      (lett (IntKind.i64.wrap ((z7b s) - 1)) fun (t32 : Int) =>
       obind (ze8 1 v t32) fun t33=>
       obind (z9 h1 t33) fun v34=>
       obind (z1a v34) fun t34=>
       ifB t34
       (obind (z58 1 (.ptr H.next 0)) fun t37 =>
        obind (z15 h1 4 t37) fun t38=>
        lett (IntKind.i64.wrap ((z7b s) - 1)) fun (t41:Int)=>
        obind (z1a2 s t41) fun t42=>
        callN (z14 n (d+2) 47 [.agg t38,.int .u8 t42] h1) fun r43 h_32=>
        obind (z1a r43) fun t43=>
        k14 t43 h_32)
       (k14 false h1))
      (k14 false h1)) fun r h'=>r=.ret (.bool (z119 (fun s=>∃c,s=[c]∧inW w c=true) s f))∧Tch [] H h':=by
     intro k14 hk hAB;rw[hV,hAB,Bool.false_or]
     by_cases h0:s.length=0
     ·repeat (first | (with_reducible refine Wp.lett ?_) | ((with_reducible refine y7 ?_ ?_; apply decide_eq_false); omega))
      rw[hk];refine Wp.ret ⟨?_,t1⟩;rw[decide_eq_false (show ¬0<s.length by omega)];rfl
     ·obtain ⟨m, hm⟩ : ∃ m, s.length = m + 1 := ⟨s.length - 1, by omega⟩
      have hmi:m<s.length:=by omega
      have em:z7b s - 1=(m:Int):=by omega
      obtain⟨p2,i2,c2⟩:=kf1.idx (i:=m) (by omega);have hx2:=z30 hmi;rw[←em] at i2 hx2;have eh:=has_w (n:=n) (d:=d+1) (h:=h1) hw (z38a hmi);have e9:s.getD (s.length - 1) 0=s[m]:=by rw[List.getD_eq_getElem?_getD,List.getElem?_eq_getElem (show s.length - 1<_ by omega)];show s[s.length - 1]=s[m];congr 1;omega
      have e8:s.length - 1=m:=by omega
      rw[e9,e8,decide_eq_true (show 0<s.length by omega),Bool.true_and];cases hfm:f m with
      |true=>
       rw[hfm] at c2
       repeat(first|((with_reducible refine yf ?_ ?_ ?_);omega;omega)|(with_reducible first|refine Wp.lett ?_|(apply Wp.obind;first|exact i2|exact c2|exact e4|exact hx2|exact z6 _|exact ze _ _ _))|((with_reducible refine y8 ?_ ?_);first|(with_reducible rfl)|((with_reducible apply decide_eq_true);omega))|(with_reducible apply Wp.callN;exact eh))
       rw[hk,Bool.true_and];exact Wp.ret ⟨rfl,t1⟩
      |false=>
       rw[hfm] at c2
       repeat(first|((with_reducible refine yf ?_ ?_ ?_);omega;omega)|(with_reducible first|refine Wp.lett ?_|(apply Wp.obind;first|exact i2|exact c2|exact z6 _))|((with_reducible refine y8 ?_ ?_;apply decide_eq_true);omega)|(with_reducible refine y7 ?_ ?_;rfl))
       rw[hk];exact Wp.ret ⟨rfl,t1⟩
    refine Wp.obind (ze _ _ _) ?_;refine Wp.obind c0 ?_;refine Wp.obind (z5 _ _) ?_
    ((with_reducible refine Wp.lett ?_))
    refine y8 rfl ?_
    ((with_reducible refine y5 (fun _ _=>?_)))
    rename_i k14 ek14;have hk14:∀b H,k14 b H=some (.ret (.bool b),H):=fun b H=>by rw[ek14]
    refine Wp.obind i1 ?_;cases hf:f s.length with
    |false=>
     rw[hf] at cn;refine Wp.obind cn ?_;refine Wp.obind (z6 _) ?_;refine y7 rfl ?_;exact last k14 hk14 (by rw[hf];rfl)
    |true=>
     rw[hf] at cn;refine Wp.obind cn ?_;refine Wp.obind (z6 _) ?_;refine y8 rfl ?_;refine Wp.obind r6 ?_;refine Wp.callN es ?_;refine Wp.obind (z6 _) ?_;cases hA:z1ce (fun s=>∃c,s=[c]∧inW w c=true) with
     |false=>
      refine y7 rfl ?_;exact last k14 hk14 (by rw[hf,hA];rfl)
     |true=>
      refine y8 rfl ?_;rw[hk14,hV,hf,hA];exact Wp.ret ⟨rfl,t1⟩
   rw[z1a5,if_neg e2]
   by_cases e3:op=3
   ·subst e3
    rw[if_pos rfl]
    repeat(first|(with_reducible first|refine y12 (fun _ _=>?_)|refine Wp.lett ?_|(apply Wp.obind;first|exact c0|exact z5 _ _|exact ze _ _ _))|((with_reducible refine y8 ?_ ?_;apply z28);omega)|((with_reducible refine y7 ?_ ?_;apply z2e);omega))
    rename_i k63 ek63;rw[←z31b (on1.1 (by decide))];refine(z31d (d:=d+1) (h:=h1) (k63:=k63) g1 rH1 kn1 hp1 hw (by omega) (by omega) (fun H' tH'=>?_) kc1 ks 0 n v f h1 (kp.keep t1) (ke.keep t1) (ksm.keep t1) List.drop_zero (by omega) (Tch.refl _ _) kf1).mono fun r h' ⟨e,t⟩=>⟨e,t1.trans t⟩;rw[ek63];exact Wp.ret ⟨rfl,tH'⟩
   rw[if_neg e3]
   by_cases e4:op=4
   ·subst e4
    rw[if_pos rfl]
    repeat(first|(with_reducible first|refine y12 (fun _ _=>?_)|refine Wp.lett ?_|(apply Wp.obind;first|exact c0|exact z5 _ _|exact ze _ _ _))|((with_reducible refine y8 ?_ ?_;apply z28);omega)|((with_reducible refine y7 ?_ ?_;apply z2e);omega))
    rename_i k117 ek117;refine(z31c (d:=d+2) (h:=h1) (k117:=k117) gk1 kn1 hp1 hw (by omega) kf1 (fun H' tH'=>?_) kc1 ks 0 n h1 (kp.keep t1) List.drop_zero (by omega) (Tch.refl _ _)).mono fun r h' ⟨e,t⟩=>⟨e,t1.trans t⟩;rw[ek117];exact Wp.ret ⟨rfl,tH'⟩
   rw[if_neg e4]
   by_cases e57:5≤op∧op≤7
   ·have hone := on1.2 e57.1
    have kq:=(z251 ks (D:=d+1) (n:=n) (s:=s) on2 ks1 r1.right (by omega) (by omega) (by omega) hl hx).keep tH
    match ks,hone,kp,hl1,kq with
    |[t9],_,kp,hl1,kq=>
     match kc1,hl1,kp,gk,hK,kq with
     |[c1],_,.cons e _,gk,hK,.cons eq1 _=>
      obtain⟨l6,o6⟩:=hK c1 List.mem_cons_self
      have row:∀{h3:AHeap},Tch [] H h3→∃p1 o1,ze8 6 kv1 0=some (.ptr p1 o1)∧z15 h3 6 (.ptr p1 o1)=some c1:=fun t3=>by
       obtain⟨p1,o1,_,x1,y1⟩:=(gk.keep t3).2 0 (by simp);exact⟨p1,o1,x1,y1⟩
      have d5:=fun {h3:AHeap} (t3:Tch [] h1 h3)=>z3de (kn1.tch t3 hp1 (by simp)) hw;obtain⟨p1,o1,x1,y1⟩:=row t1;have eL:z2fd [t9]=z1a5 t9:=by rw[z2fd]
      by_cases e7:op=7
      ·subst e7
       rw[if_neg (by decide),if_neg (by decide),if_pos rfl,eL,z405,z2a0];obtain⟨h3,g3,t3⟩:=e f v h1 t1 kf1;cases hf:f s.length with
       |true=>
        rw[hf] at cn
        repeat(first|(with_reducible first|refine y5 (fun _ _=>?_)|refine Wp.lett ?_|(apply Wp.obind;first|exact c0|exact i1|exact cn|exact z5 _ _|exact z6 _|exact ze _ _ _))|((with_reducible refine y8 ?_ ?_);first|(with_reducible rfl)|((with_reducible apply z28);omega))|((with_reducible refine y7 ?_ ?_;apply z2e);omega)|(with_reducible refine yd (by assumption) ?_))
        exact Wp.ret ⟨rfl,t1⟩
       |false=>
        rw[hf] at cn
        repeat(first|(with_reducible first|refine y5 (fun _ _=>?_)|refine Wp.lett ?_|(apply Wp.obind;first|exact c0|exact i1|exact cn|exact c5|exact x1|exact y1|exact z5 _ _|exact z6 _|exact ze _ _ _))|((with_reducible refine y8 ?_ ?_;apply z28);omega)|((with_reducible refine y7 ?_ ?_);first|(with_reducible rfl)|((with_reducible apply z2e);omega))|(with_reducible first|(apply Wp.callN;assumption)|refine yd (by assumption) ?_))
        rw[Bool.false_or];exact Wp.ret ⟨rfl,t1.trans t3⟩
      obtain⟨v3,h3,g3,k3,t3⟩:=z435 (n:=n) (d:=d) (h:=h1) (f:=f) (v:=v) eq1 l6 o6 t1 hl (by omega) hxH kf1;have tA:=t1.trans t3;obtain⟨h4,g4,t4⟩:=e _ v3 h3 tA k3;obtain⟨p2,o2,x2,y2⟩:=row tA
      have ep:AV.ptr p2 o2=.ptr p1 o1:=by
       rw[x1] at x2;exact(Option.some.inj x2).symm
      rw[ep] at y2
      by_cases e5:op=5
      ·subst e5
       rw[if_pos rfl,eL,part_star];obtain⟨p3,i3,c3⟩:=k3.idx (i:=s.length) (by omega);rw[←ll] at i3;cases hg:z6a (z3ef (z1a5 t9)) s f s.length with
       |true=>
        rw[hg] at c3
        repeat(first|(with_reducible first|refine y5 (fun _ _=>?_)|refine Wp.lett ?_|(apply Wp.obind;first|exact c0|exact c5|exact x1|exact y1|exact i3|exact c3|exact z5 _ _|exact z6 _|exact ze _ _ _))|((with_reducible refine y8 ?_ ?_);first|(with_reducible rfl)|((with_reducible apply z28);omega))|((with_reducible refine y7 ?_ ?_;apply z2e);omega)|(with_reducible first|(apply Wp.callN;assumption)|refine yd (by assumption) ?_))
        exact Wp.ret ⟨rfl,tA⟩
       |false=>
        rw[hg] at c3;have q5:=d5 t3
        repeat(first|(with_reducible first|refine y5 (fun _ _=>?_)|refine Wp.lett ?_|(apply Wp.obind;first|exact c0|exact c5|exact x1|exact y1|exact i3|exact c3|exact q5|exact y2|exact z5 _ _|exact z6 _|exact ze _ _ _))|((with_reducible refine y8 ?_ ?_;apply z28);omega)|((with_reducible refine y7 ?_ ?_);first|(with_reducible rfl)|((with_reducible apply z2e);omega))|(with_reducible first|(apply Wp.callN;assumption)|refine yd (by assumption) ?_))
        rw[Bool.false_or];exact Wp.ret ⟨rfl,tA.trans t4⟩
      obtain rfl:op=6:=by omega
      rw[if_neg (by decide),if_pos rfl,eL,z3bb]
      repeat(first|(with_reducible first|refine Wp.lett ?_|(apply Wp.obind;first|exact c0|exact c5|exact x1|exact y1|exact z5 _ _|exact ze _ _ _))|((with_reducible refine y8 ?_ ?_;apply z28);omega)|((with_reducible refine y7 ?_ ?_;apply z2e);omega)|(with_reducible apply Wp.callN;assumption))
      refine Wp.chk (z1a4 rfl (z1a4 rfl (z1a4 (z183 (by kernel_rfl) (by kernel_rfl) y2) (z1a4 (z360 (by kernel_rfl) (d5 t3)) rfl)))) ?_;refine Wp.callN g4 ?_
      repeat(((with_reducible apply Wp.obind);(with_reducible exact z6 _)))
      exact Wp.ret ⟨rfl,tA.trans t4⟩
   ·rw [if_neg (by omega), if_neg (by omega), if_neg (by omega), z2a0]
    repeat(first|(with_reducible first|refine Wp.lett ?_|(apply Wp.obind;first|exact c0|exact i1|exact cn|exact z5 _ _|exact z6 _|exact ze _ _ _))|((with_reducible refine y7 ?_ ?_;apply z2e);omega))
    exact Wp.ret ⟨rfl,t1⟩
theorem z3bc:∀(ks:List Nd) {k1:List (List AV)} {T:List z9e} {D n:Nat} {s:z11} {h:AHeap},oneL ks→KidsT ks k1 T→RowsAt h T→2*szL ks+4≤D→szL ks+1000<n→szL ks<1000000→s.length<900→z7a TBo h.ex=false→KidPt n D s h k1 ks
 |[],_,_,_,_,_,_,_,k1,_,_,_,_,_,_=>by
  cases k1
  exact .nil
 |t::ks,_,_,D,n,s,h,⟨p1,p2⟩,k1,r1,hD,hn,hN,hl,hx=>by
  rw[szL] at hD hn hN
  cases k1 with
  |cons a1 b1=>exact .cons (z44f t p1 a1 r1.left (by omega) (by omega) (by omega) hl hx) (z3bc ks p2 b1 r1.right (by omega) (by omega) (by omega) hl hx)
end
theorem z49b{P:List Nat→Prop}{s:z11}:z119 P s (fun j=>decide (j=0))=z1ce (fun u=>P (s.map UInt8.toNat++u)):=by
 have e:seg s 0 s.length=s.map UInt8.toNat:=by
  unfold seg;rw[List.drop_zero,Nat.sub_zero,List.take_length]
 refine z92 ?_;rw[z97,zd9];constructor
 ·rintro ⟨i, t, _, hi, ht, h⟩
  rw[decide_eq_true_eq] at hi;subst hi;rw[e] at h;exact⟨t,ht,h⟩
 ·exact fun ⟨t,ht,h⟩=>⟨0,t,Nat.zero_le _,rfl,ht,by rw[e];exact h⟩
theorem rdead_w{t:Nd}{c:List AV}{T:List z9e}{n D:Nat}{s:z11}{h:AHeap}(k1:z2fe t)(kt:NodeT t c T)(r:RowsAt h T)(hD:2*t.sz+4≤D)(hn:t.sz+1000<n)(hz:t.sz<1000000)(hl:s.length<900)(hx:z7a TBo h.ex=false):
  z14 n (D+1) 20 [.agg c,z12 s] h=some (.ret (.bool (!z1ce (fun u=>z1a5 t (s.map UInt8.toNat++u)))),h):=by
 apply Wp.eq;rw[z3a0];refine Wp.gc ?_
 suffices hK:Wp (z12d (z14 n D) n c s h) fun r h'=>r=.ret (.bool (!z1ce (fun u=>z1a5 t (s.map UInt8.toNat++u))))∧Tch [] h h' from hK.mono fun r h' ⟨e,t⟩=>⟨t.above,by rw[e];rfl,e,rfl⟩
 obtain⟨D,rfl⟩:∃D',D=D'+1:=⟨D - 1,by omega⟩;unfold z12d;have M:=Mem.nil [] h;refine y16 M kt.one fun h1 M1=>?_;refine y14 M1 kt.len ?_;obtain⟨v2,h2,e2,k2,t2⟩:=start_r (n:=n) (d:=D) (h:=h1) (s:=s) (by omega) (by rw[M1.ex];exact hx);refine Wp.callN e2 ?_;have y2:z15 h2 6 (.ptr h.next 0)=some c:=(M1.at0.1.tch t2 M1.at0.2.1 (by simp)).ldAll kt.len;refine Wp.chk (z1a4 (z183 (by kernel_rfl) (by kernel_rfl) y2) rfl) ?_;obtain⟨h3,e3,t3⟩:=z44f t (n:=n) (D:=D+1) (s:=s) k1 kt r hD hn hz hl hx _ v2 h2 (M1.tch.trans t2) k2;rw[z49b] at e3;refine Wp.callN e3 ?_
 repeat(with_reducible first|refine Wp.lett ?_|(apply Wp.obind;exact z6 _))
 exact Wp.ret ⟨rfl,(M1.tch.trans t2).trans t3⟩
noncomputable def za7(call:zf)(t1:z11)(h_20:AHeap)(r47:AV)(k66:AHeap→R)(self:Int→AHeap→R)(t10:Int)(h_70:AHeap):R:=
 lett (decide (t10≤(z7b t1))) fun (t53:Bool)=>
 ifB t53
 (
  lett (fun (t73:Bool) (h_79:AHeap)=>
   ifB t73
   (
    some (.ret (.bool false),h_79))
   (
    lett (decide (t10<(z7b t1))) fun (t77:Bool)=>
    lett (fun (h_84:AHeap)=>
     lett (IntKind.i64.wrap (t10+1)) fun (t55:Int)=>
     self t55 h_84) fun k83=>
    ifB t77
    (
     obind (z1a2 t1 t10) fun t81=>
     callN (call 21 [r47,.int .u8 t81] h_79) fun _ h_87=>
     k83 h_87)
    (
     k83 h_79))) fun k78=>
  obind (z15 h_70 6 (z7 h_20)) fun t58=>
  obind (z317 t1 0 t10) fun t61=>
  callN (call 18 [r47] h_70) fun r57 h_91=>
  obind (z1a r57) fun t57=>
  chk (ze3 Tryd.prog h_91 34 (z7 h_20) (.agg t58)&&true)<|
  callN (call 15 [.agg t58,z12 t61] h_91) fun r62 h_95=>
  obind (z1a r62) fun t62=>
  lett (!((t57:Bool) == t62)) fun (t63:Bool)=>
  ifB t63
  (
   k78 true h_95)
  (
   obind (z15 h_95 6 (z7 h_20)) fun t67=>
   obind (z317 t1 0 t10) fun t70=>
   callN (call 19 [r47] h_95) fun r66 h_101=>
   obind (z1a r66) fun t66=>
   chk (ze3 Tryd.prog h_101 34 (z7 h_20) (.agg t67)&&(true&&true))<|
   callN (call 20 [.agg t67,z12 t70] h_101) fun r71 h_105=>
   obind (z1a r71) fun t71=>
   lett (!((t66:Bool) == t71)) fun (t72:Bool)=>
   k78 t72 h_105))
 (
  k66 h_70)
noncomputable def zbc(call:zf)(t1:z11)(h_20:AHeap)(r47:AV)(k66:AHeap→R):Nat→Int→AHeap→R:=zbd (fun _ _=>none) (za7 call t1 h_20 r47 k66)
theorem z11d(call:zf)(t1:z11)(h_20:AHeap)(r47:AV)(k66:AHeap→R)(m:Nat):zbc call t1 h_20 r47 k66 (m+1)=za7 call t1 h_20 r47 k66 (zbc call t1 h_20 r47 k66 m):=rfl
noncomputable def z15a(call:zf)(n:Nat)(t0:List AV)(t1:z11)(h:AHeap):R:=outK (zdd h 23 (some (.agg t0))) fun v2 h_2=>callN (call 11 [] h_2) fun r11 h_6=>obind (z1a r11) fun t11=>lett (!t11) fun (t12:Bool)=>ifB t12 (some (.ret (.bool false),h_6)) (obind (z15 h_6 2 v2) fun t14=>callN (call 12 [.agg t14] h_6) fun r15 h_13=>obind (z18e 0 r15) fun v16=>obind (z18e 1 r15) fun v17=>obind (z2c .i64 v17) fun t17=>obind (z15 h_13 2 v2) fun t19=>callN (call 13 [.agg t19] h_13) fun r20 h_20=>obind (z18e 0 r20) fun v21=>obind (z4f v21) fun t21=>obind (z18e 1 r20) fun v22=>obind (z4f v22) fun t22=>lett (newH h_20 34 [.int .i64 0,.int .u64 0,.int .u64 0,.int .u64 0,.int .u64 0,.nsl]) fun h_26=>lett (newH h_26 36 [.int .i64 0,.int .i64 0]) fun h_28=>obind (z16 h_28 6 t21 (z7 h_20)) fun h_30=>obind (z16 h_30 2 t22 (z7 h_26)) fun h_32=>obind (z9 h_32 (AV.ptr (AHeap.next h_26) 0)) fun v24=>obind (z2c .i64 v24) fun t24=>lett ((t24:Int) != 0) fun (t25:Bool)=>lett (fun (t29:Bool) (h_39:AHeap)=>lett (fun (t34:Bool) (h_42:AHeap)=>lett (fun (t39:Bool) (h_45:AHeap)=>ifB t39 (obind (z9 h_45 (AV.ptr (AHeap.next h_26) 0)) fun v41=>obind (z2c .i64 v41) fun t41=>lett ((t41:Int) != 0) fun (t42:Bool)=>lett ((t17:Int) != 0) fun (t44:Bool)=>lett ((t42:Bool) == t44) fun (t45:Bool)=>some (.ret (.bool t45),h_45)) (callN (call 17 [v16] h_45) fun r47 h_55=>outK (z109 Tryd.prog h_55 .eql 44 true (some r47) (some AV.nilp)) fun v49 h_59=>obind (z1a v49) fun t49=>ifB t49 (some (.ret (.bool false),h_59)) (lett (fun (h_67:AHeap)=>some (.ret (.bool true),h_67)) fun k66=>zbc call t1 h_20 r47 k66 n 0 h_59))) fun j39=>ifB t34 (j39 true h_42) (obind (z15 h_42 2 v2) fun t36=>outK (z122 Tryd.prog h_42 43 1 [(0,.agg t36)]) fun v37 h_110=>callN (call 16 [v37] h_110) fun r38 h_112=>obind (z1a r38) fun t38=>j39 t38 h_112)) fun j34=>ifB t29 (j34 true h_39) (lett (decide ((z7b t1)>60)) fun (t33:Bool)=>j34 t33 h_39)) fun j29=>ifB t25 (j29 true h_32) (lett ((t17:Int) != 0) fun (t28:Bool)=>j29 t28 h_32))
set_option maxHeartbeats 4000000 in
set_option maxRecDepth 20000 in
theorem z299{call:zf}(hc:SaysAll Tryd.prog call){n:Nat}{t0:List AV}{t1:z11}{h:AHeap}{rR:ARes}{hR:AHeap}(hF:z15a call n t0 t1 h=some (rR,hR)):Says Tryd.prog 4 [.agg t0,z12 t1] h rR hR:=by
 unfold z15a at hF;refine sO Tryd.func4 fun w0 m0=>?_;refine wW [(0,.agg t0),(1,z12 t1)] ?_;refine oG fun n1=>W.r ?_;refine oK 2 hF fun v2 h_2 hF=>?_;refine oA 4 (.bool false) ?_;refine oV [(1,z12 t1),(2,v2)] (n1 ?_);refine oH fun n4 q4=>?_;refine oG fun n5=>W.r ?_;refine oCb hc 11 hF fun t11 h_6 hF=>?_;refine oB 12 hF fun t12 hF=>?_;refine oV [(1,z12 t1),(2,v2),(12,.bool t12)] (n5 ?_)
 cases t12 with
 |true=>
  refine oT hF fun hF=>?_;refine oG fun n10=>W.r ?_;refine oA 4 (.bool false) ?_;refine oV [(4,.bool false)] (n10 (oY (q4 ?_)));exact lZ hF [.tmp 4] [.bool false] (rT zd)
 |false=>
  refine oU hF fun hF=>?_;refine oZ (n4 ?_);refine oG fun n11=>W.r ?_;refine oR 14 23 hF fun t14 hF=>?_;refine oC hc (some 15) hF fun r15 h_13 hF=>?_;refine oA 13 r15 ?_;refine oE 16 hF fun v16 hF=>?_;refine oEi 17 hF fun t17 hF=>?_;refine oA 5 v16 ?_;refine oA 6 (.int .i64 t17) ?_;refine oV [(1,z12 t1),(2,v2),(5,v16),(6,.int .i64 t17)] (n11 ?_);refine oG fun n18=>W.r ?_;refine oR 19 23 hF fun t19 hF=>?_;refine oC hc (some 20) hF fun r20 h_20 hF=>?_;refine oA 18 r20 ?_;refine oEa 21 hF fun t21 hF=>?_;refine oEa 22 hF fun t22 hF=>?_;refine oN 7 hF fun h_26 hF=>?_;refine oN 8 hF fun h_28 hF=>?_;refine oW 34 (.agg t21) hF fun h_30 hF=>?_;refine oW 36 (.agg t22) hF fun h_32 hF=>?_;refine oV [(1,z12 t1),(2,v2),(5,v16),(6,.int .i64 t17),(7,(z7 h_20)),(8,(z7 h_26))] (n18 ?_);refine oH fun n34 q34=>?_;refine W.s (fun K35 n35 e35 q35 p35=>?_);refine W.r ?_;refine oA 23 (AV.ptr (AHeap.next h_26) 0) ?_;refine oLi 24 26 hF fun t24 hF=>?_;refine oB 25 hF fun t25 hF=>?_;refine oA 26 (.bool t25) ?_;obtain⟨j29,e40,hF⟩:=z20 hF
  have J41:∀(t29:Bool) (h_39:AHeap),j29 t29 h_39=some (rR,hR)→WL Tryd.prog w0 m0 (Func.ntmps Tryd.f4) (y13 (y9 (y9 (y6 (y6 (y6 (y6 (z5f Tryd.f4)))))))) 7 K35 [(1,z12 t1),(2,v2),(5,v16),(6,.int .i64 t17),(7,(z7 h_20)),(8,(z7 h_26)),(29,.bool t29)] [] h_39:=by
   intro t29 h_39 hF;rw[e40] at hF;refine oA 30 (.bool t29) ?_;obtain⟨j34,e43,hF⟩:=z20 hF
   have J44:∀(t34:Bool) (h_42:AHeap),j34 t34 h_42=some (rR,hR)→WL Tryd.prog w0 m0 (Func.ntmps Tryd.f4) (y13 (y9 (y9 (y6 (y6 (y6 (y6 (z5f Tryd.f4)))))))) 12 K35 [(1,z12 t1),(2,v2),(5,v16),(6,.int .i64 t17),(7,(z7 h_20)),(8,(z7 h_26)),(34,.bool t34)] [] h_42:=by
    intro t34 h_42 hF;rw[e43] at hF;refine oA 35 (.bool t34) ?_;obtain⟨j39,e46,hF⟩:=z20 hF
    have J47:∀(t39:Bool) (h_45:AHeap),j39 t39 h_45=some (rR,hR)→WL Tryd.prog w0 m0 (Func.ntmps Tryd.f4) (y13 (y9 (y9 (y6 (y6 (y6 (y6 (z5f Tryd.f4)))))))) 17 K35 [(1,z12 t1),(5,v16),(6,.int .i64 t17),(7,(z7 h_20)),(8,(z7 h_26)),(39,.bool t39)] [] h_45:=by
     intro t39 h_45 hF;rw[e46] at hF;refine oV [(1,z12 t1),(5,v16),(6,.int .i64 t17),(7,(z7 h_20)),(8,(z7 h_26)),(39,.bool t39)] (n35 ?_)
     cases t39 with
     |true=>
      refine oT hF fun hF=>?_;refine oG fun n48=>W.r ?_;refine oA 40 (AV.ptr (AHeap.next h_26) 0) ?_;refine oLi 41 26 hF fun t41 hF=>?_;refine oB 42 hF fun t42 hF=>?_;refine oA 43 (.int .i64 t17) ?_;refine oB 44 hF fun t44 hF=>?_;refine oB 45 hF fun t45 hF=>?_;refine oA 4 (.bool t45) ?_;refine oV [(4,.bool t45)] (n48 (oY (q34 ?_)));exact lZ hF [.tmp 4] [.bool t45] (rT zd)
     |false=>
      refine oU hF fun hF=>?_;refine oZ (n34 ?_);refine oG fun n54=>W.r ?_;refine oA 46 v16 ?_;refine oC hc (some 47) hF fun r47 h_55 hF=>?_;refine oA 9 r47 ?_;refine oV [(1,z12 t1),(7,(z7 h_20)),(9,r47)] (n54 ?_);refine oH fun n57 q57=>?_;refine oG fun n58=>W.r ?_;refine oA 48 r47 ?_
      replace hF:=z8d hF;obtain⟨v49,h_59,e60,hF⟩:=hF
      replace hF:=z4 hF;obtain⟨t49,c61,hF⟩:=hF
      have c61:=z24 c61;subst c61;refine WL.b (some 49) (.bool t49) h_59 e60 ?_;refine oV [(1,z12 t1),(7,(z7 h_20)),(9,r47),(49,.bool t49)] (n58 ?_)
      cases t49 with
      |true=>
       refine oT hF fun hF=>?_;refine oG fun n62=>W.r ?_;refine oA 4 (.bool false) ?_;refine oV [(4,.bool false)] (n62 (oY (q57 ?_)));exact lZ hF [.tmp 4] [.bool false] (rT zd)
      |false=>
       refine oU hF fun hF=>?_;refine oZ (n57 ?_);refine W.s (fun K63 n63 e63 q63 p63=>?_);refine oG fun n64=>W.r ?_;refine oA 10 (.int .i64 0) ?_;refine oV [(1,z12 t1),(7,(z7 h_20)),(9,r47),(10,.int .i64 0)] (n64 ?_);obtain⟨k66,e66,hF⟩:=z20 hF
       have J66:∀(h_67:AHeap),k66 h_67=some (rR,hR)→Go w0 m0 (Func.ntmps Tryd.f4) (K63 .normal) [] [] h_67:=by
        intro h_67 hF;rw[e66] at hF;refine n63 ?_;refine oG fun n68=>W.r ?_;refine oA 4 (.bool true) ?_;refine oV [(4,.bool true)] (n68 (oY ?_));exact lZ hF [.tmp 4] [.bool true] (rT zd)
       refine ye (by kernel_rfl) (fun K65 n65 s65 o65 q65 p65=>?_);refine y17 (by kernel_rfl) (fun I69 K69 b69 n69 e69 q69 p69=>?_)
       have L69:∀(m:Nat) (t10:Int) (h_70:AHeap),zbc call t1 h_20 r47 k66 m t10 h_70=some (rR,hR)→Go w0 m0 (Func.ntmps Tryd.f4) I69 [(1,z12 t1),(7,(z7 h_20)),(9,r47),(10,.int .i64 t10)] [] h_70:=by
        intro m
        induction m with
        |zero=>intro t10 h_70 hF;cases hF
        |succ m ih69=>
         intro t10 h_70 hF;rw[z11d] at hF;unfold za7 at hF;refine b69 ?_;refine W.s (fun K71 n71 e71 q71 p71=>?_);refine oG fun n72=>W.r ?_;refine oA 50 (.int .i64 t10) ?_;refine oA 51 (z12 t1) ?_;refine oA 52 (.int .i64 (z7b t1)) ?_;refine oB 53 hF fun t53 hF=>?_;refine oV [(1,z12 t1),(7,(z7 h_20)),(9,r47),(10,.int .i64 t10),(53,.bool t53)] (n72 ?_)
         cases t53 with
         |true=>
          refine oT hF fun hF=>?_;refine oZ (n71 ?_);refine oH fun n74 q74=>?_;refine ye (by kernel_rfl) (fun K75 n75 s75 o75 q75 p75=>?_);refine oH fun n76 q76=>?_;refine W.s (fun K77 n77 e77 q77 p77=>?_);obtain⟨k78,e78,hF⟩:=z20 hF
          have J78:∀(t73:Bool) (h_79:AHeap),k78 t73 h_79=some (rR,hR)→Go w0 m0 (Func.ntmps Tryd.f4) (K77 .normal) [(1,z12 t1),(7,(z7 h_20)),(9,r47),(10,.int .i64 t10),(73,.bool t73)] [] h_79:=by
           intro t73 h_79 hF;rw[e78] at hF;refine n77 ?_
           cases t73 with
           |true=>
            refine oT hF fun hF=>?_;refine oG fun n80=>W.r ?_;refine oA 4 (.bool false) ?_;refine oV [(4,.bool false)] (n80 (oY (q76 (q75 (q74 (q69 (q65 (q63 ?_))))))));exact lZ hF [.tmp 4] [.bool false] (rT zd)
           |false=>
            refine oU hF fun hF=>?_;refine oZ (n76 ?_);refine oG fun n81=>W.r ?_;refine oA 74 (.int .i64 t10) ?_;refine oA 75 (z12 t1) ?_;refine oA 76 (.int .i64 (z7b t1)) ?_;refine oB 77 hF fun t77 hF=>?_;refine oV [(1,z12 t1),(7,(z7 h_20)),(9,r47),(10,.int .i64 t10),(77,.bool t77)] (n81 ?_);obtain⟨k83,e83,hF⟩:=z20 hF
            have J83:∀(h_84:AHeap),k83 h_84=some (rR,hR)→Go w0 m0 (Func.ntmps Tryd.f4) (K75 .normal) [(1,z12 t1),(7,(z7 h_20)),(9,r47),(10,.int .i64 t10)] [] h_84:=by
             intro h_84 hF;rw[e83] at hF;refine n75 (n74 (W.r ?_));refine oA 54 (.int .i64 t10) ?_;refine oI 55 .i64 hF fun t55 hF=>?_;refine oA 10 (.int .i64 t55) ?_;refine oV [(1,z12 t1),(7,(z7 h_20)),(9,r47),(10,.int .i64 t55)] (n69 ?_);exact gW _ (ih69 _ _ hF)
            cases t77 with
            |true=>
             refine oT hF fun hF=>?_;refine W.r ?_;refine oA 78 r47 ?_;refine oA 79 (z12 t1) ?_;refine oA 80 (.int .i64 t10) ?_;refine oX 81 9 .i64 hF fun t81 hF=>?_;refine oC hc (some 82) hF fun r82 h_87 hF=>?_;refine oV [(1,z12 t1),(7,(z7 h_20)),(9,r47),(10,.int .i64 t10)] ?_;exact gW _ (J83 _ hF)
            |false=>
             refine oU hF fun hF=>?_;refine oZ ?_;exact gW _ (J83 _ hF)
          refine y26 (by kernel_rfl) (hc.ok w0) (plan:=[0,2,3,4,5,1,6,7,8,9,11,12,13,14,10,15,16,17]) (by kernel_rfl) (by kernel_rfl) (by kernel_rfl) ?_;refine WD.a 0 (some 56) r47 h_70 ?_;obtain⟨t58,e89,hF⟩:=z4 hF;refine WD.b 1 (some 58) (.agg t58) h_70 (z64 (P:=Tryd.prog) (h:=h_70) (t:=34) (by kernel_rfl) (by kernel_rfl) e89) ?_;refine WD.a 0 (some 59) (z12 t1) h_70 ?_;refine WD.a 0 (some 60) (.int .i64 t10) h_70 ?_;obtain⟨t61,e90,hF⟩:=z4 hF;refine WD.b 0 (some 61) (z12 t61) h_70 (z3ab (P:=Tryd.prog) (h:=h_70) (t:=9) (A:=none) (B:=(some (.int .i64 t10))) (by kernel_rfl) (.inr ⟨rfl,rfl⟩) (.inl ⟨_,rfl⟩) e90) ?_
          replace hF:=z2a hF;obtain⟨r57,h_91,e92,hF⟩:=hF
          replace hF:=z4 hF;obtain⟨t57,c93,hF⟩:=hF
          have c93:=z24 c93;subst c93;obtain⟨k94,hF⟩:=z120 hF;refine WD.call (d:=(some 57)) (by kernel_rfl) (by kernel_rfl) (by kernel_rfl) e92 (k:=2) (by kernel_rfl) (fun _=>(Eq.trans (by kernel_rfl) k94)) (by decide) ?_
          replace hF:=z2a hF;obtain⟨r62,h_95,e96,hF⟩:=hF
          replace hF:=z4 hF;obtain⟨t62,c97,hF⟩:=hF
          have c97:=z24 c97;subst c97;refine WD.call (d:=(some 62)) (by kernel_rfl) (by kernel_rfl) (by kernel_rfl) e96 (k:=2) (by kernel_rfl) (fun _=>(by kernel_rfl)) (by decide) ?_;obtain⟨t63,e98,hF⟩:=z20 hF;refine WD.val (d:=(some 63)) (v:=.bool t63) (h':=h_95) (by kernel_rfl) (by kernel_rfl) (zb4 AV.bool e98 (by kernel_rfl)) (k:=0) (by kernel_rfl) (fun e=>absurd e (by decide)) (by decide) ?_;refine WD.a 0 (some 64) (.bool t63) h_95 ?_
          cases t63 with
          |true=>
           replace hF:=z8f hF
           refine oD 0 (some 65) ?_;refine oD 1 (some 67) ?_;refine oD 0 (some 68) ?_;refine oD 0 (some 69) ?_;refine oD 0 (some 70) ?_;refine WD.not (d:=(some 66)) (by kernel_rfl) (by kernel_rfl) (k:=2) (by kernel_rfl) (fun _=>(by kernel_rfl)) (by decide) ?_;refine WD.not (d:=(some 71)) (by kernel_rfl) (by kernel_rfl) (k:=2) (by kernel_rfl) (fun _=>(by kernel_rfl)) (by decide) ?_;refine oD 0 (some 72) ?_;refine WD.a 0 (some 73) (.bool true) h_95 ?_;refine WD.nil ?_;exact gW _ (J78 _ _ hF)
          |false=>
           replace hF:=z90 hF
           refine WD.a 0 (some 65) r47 h_95 ?_;obtain⟨t67,e99,hF⟩:=z4 hF;refine WD.b 1 (some 67) (.agg t67) h_95 (z64 (P:=Tryd.prog) (h:=h_95) (t:=34) (by kernel_rfl) (by kernel_rfl) e99) ?_;refine WD.a 0 (some 68) (z12 t1) h_95 ?_;refine WD.a 0 (some 69) (.int .i64 t10) h_95 ?_;obtain⟨t70,e100,hF⟩:=z4 hF;refine WD.b 0 (some 70) (z12 t70) h_95 (z3ab (P:=Tryd.prog) (h:=h_95) (t:=9) (A:=none) (B:=(some (.int .i64 t10))) (by kernel_rfl) (.inr ⟨rfl,rfl⟩) (.inl ⟨_,rfl⟩) e100) ?_
           replace hF:=z2a hF;obtain⟨r66,h_101,e102,hF⟩:=hF
           replace hF:=z4 hF;obtain⟨t66,c103,hF⟩:=hF
           have c103:=z24 c103;subst c103;obtain⟨k104,hF⟩:=z120 hF;refine WD.call (d:=(some 66)) (by kernel_rfl) (by kernel_rfl) (by kernel_rfl) e102 (k:=2) (by kernel_rfl) (fun _=>(Eq.trans (by kernel_rfl) k104)) (by decide) ?_
           replace hF:=z2a hF;obtain⟨r71,h_105,e106,hF⟩:=hF
           replace hF:=z4 hF;obtain⟨t71,c107,hF⟩:=hF
           have c107:=z24 c107;subst c107;refine WD.call (d:=(some 71)) (by kernel_rfl) (by kernel_rfl) (by kernel_rfl) e106 (k:=2) (by kernel_rfl) (fun _=>(by kernel_rfl)) (by decide) ?_;obtain⟨t72,e108,hF⟩:=z20 hF;refine WD.val (d:=(some 72)) (v:=.bool t72) (h':=h_105) (by kernel_rfl) (by kernel_rfl) (zb4 AV.bool e108 (by kernel_rfl)) (k:=0) (by kernel_rfl) (fun e=>absurd e (by decide)) (by decide) ?_;refine WD.a 0 (some 73) (.bool t72) h_105 ?_;refine WD.nil ?_;exact gW _ (J78 _ _ hF)
         |false=>
          refine oU hF fun hF=>?_;refine W.exit (by kernel_rfl) ?_;refine e71 (e69 ?_);refine s65 (by kernel_rfl) ?_;exact gW _ (J66 _ hF)
       exact gW _ (L69 _ _ _ hF)
    cases t34 with
    |true=>
     replace hF:=z8f hF
     refine WL.o (some 36) ?_;refine WL.o (some 37) ?_;refine WL.o (some 38) ?_;refine oA 39 (.bool true) ?_;exact lW _ (J47 _ _ hF)
    |false=>
     replace hF:=z90 hF
     refine oR 36 23 hF fun t36 hF=>?_;refine oK 37 hF fun v37 h_110 hF=>?_;refine oCb hc 38 hF fun t38 h_112 hF=>?_;refine oA 39 (.bool t38) ?_;exact lW _ (J47 _ _ hF)
   cases t29 with
   |true=>
    replace hF:=z8f hF
    refine WL.o (some 31) ?_;refine WL.o (some 32) ?_;refine WL.o (some 33) ?_;refine oA 34 (.bool true) ?_;exact lW _ (J44 _ _ hF)
   |false=>
    replace hF:=z90 hF
    refine oA 31 (z12 t1) ?_;refine oA 32 (.int .i64 (z7b t1)) ?_;refine oB 33 hF fun t33 hF=>?_;refine oA 34 (.bool t33) ?_;exact lW _ (J44 _ _ hF)
  cases t25 with
  |true=>
   replace hF:=z8f hF
   refine WL.o (some 27) ?_;refine WL.o (some 28) ?_;refine oA 29 (.bool true) ?_;exact lW _ (J41 _ _ hF)
  |false=>
   replace hF:=z90 hF
   refine oA 27 (.int .i64 t17) ?_;refine oB 28 hF fun t28 hF=>?_;refine oA 29 (.bool t28) ?_;exact lW _ (J41 _ _ hF)
noncomputable def z180(n d:Nat):zf:=fun f args h=>match Nat.beq f 13||Nat.beq f 15||Nat.beq f 20||Nat.beq f 16 with
 |true=>z14 n d f args h
 |false=>world n d f args h
theorem worldN_ok(n d:Nat):SaysAll Tryd.prog (z180 n d):=by
 intro f args h r h' e;unfold z180 at e
 split at e
 ·exact worldR_ok n d _ _ _ _ _ e
 ·exact world_ok n d _ _ _ _ _ e
theorem wN_works(n d:Nat)(args:List AV)(h:AHeap):z180 n d 11 args h=world n d 11 args h:=rfl
theorem wN_of(n d:Nat)(args:List AV)(h:AHeap):z180 n d 12 args h=world n d 12 args h:=rfl
theorem wN_begin(n d:Nat)(args:List AV)(h:AHeap):z180 n d 17 args h=world n d 17 args h:=rfl
theorem wN_done(n d:Nat)(args:List AV)(h:AHeap):z180 n d 18 args h=world n d 18 args h:=rfl
theorem wN_dead(n d:Nat)(args:List AV)(h:AHeap):z180 n d 19 args h=world n d 19 args h:=rfl
theorem wN_step(n d:Nat)(args:List AV)(h:AHeap):z180 n d 21 args h=world n d 21 args h:=rfl
theorem wN_tree(n d:Nat)(args:List AV)(h:AHeap):z180 n d 13 args h=z14 n d 13 args h:=rfl
theorem wN_fits(n d:Nat)(args:List AV)(h:AHeap):z180 n d 15 args h=z14 n d 15 args h:=rfl
theorem wN_rdead(n d:Nat)(args:List AV)(h:AHeap):z180 n d 20 args h=z14 n d 20 args h:=rfl
theorem wN_deep(n d:Nat)(args:List AV)(h:AHeap):z180 n d 16 args h=z14 n d 16 args h:=rfl
abbrev TPatN:Nat:=23
theorem bldSlPat(h:AHeap)(k:Int)(u:z11):z122 Tryd.prog h 43 1 [(0,.agg [.int .i64 k,z12 u])]=ze6 h TPatN [.int .i64 k,z12 u] 1 2:=by kernel_rfl
section
variable {n d:Nat}{h:AHeap}{u s:z11}{k:Int}{Q:ARes→AHeap→Prop}
theorem deep1{h10 H:AHeap}{k27:Int→AHeap→R}(hc:z9 H (.ptr h10.next 1)=some (z12 u))(hl:u.length<1000000)(hk:∀c:Int,Wp (k27 c H) Q):
  ∀(m f i:Nat) (c:Int),m<f→i+m=u.length→0≤c→c≤(i:Int)→Wp (z11e h10 k27 f c (i:Int) H) Q
 |_,0,_,_,hf,_,_,_=>by omega
 |0,f+1,i,c,hf,hm,h0,hci=>by
  have ll:=z1b u;rw[z175];unfold zf2
  repeat(first|(with_reducible first|refine y5 (fun _ _=>?_)|refine Wp.lett ?_|(apply Wp.obind;first|exact hc|exact z34 _))|((with_reducible refine y7 ?_ ?_);first|(with_reducible rfl)|((with_reducible apply decide_eq_false);omega))|(with_reducible refine yd (by assumption) ?_))
  exact hk c
 |m+1,f+1,i,c,hf,hm,h0,hci=>by
  have ll:=z1b u;have hi:i<u.length:=by omega
  have hx:=z30 hi;have el:(i:Int)+1=((i+1:Nat):Int):=by omega
  rw[z175];unfold zf2
  by_cases h6:c≤6
  ·by_cases hz : ((u[i]).toNat : Int) = 43
   ·repeat (first | (with_reducible refine y5 (fun _ _ => ?_)) | ((with_reducible refine yf ?_ ?_ ?_); omega; omega) | (with_reducible first | refine Wp.lett ?_ | (apply Wp.obind; first | exact hc | exact hx | exact z34 _)) | ((with_reducible refine y8 ?_ ?_); ((with_reducible first | apply decide_eq_true | apply z28); omega)) | (with_reducible refine yd (by assumption) ?_))
    rw[el];exact deep1 hc hl hk m f (i+1) (c+1) (by omega) (by omega) (by omega) (by omega)
   ·repeat (first | (with_reducible refine y5 (fun _ _ => ?_)) | ((with_reducible refine yf ?_ ?_ ?_); omega; omega) | (with_reducible first | refine Wp.lett ?_ | (apply Wp.obind; first | exact hc | exact hx | exact z34 _)) | ((with_reducible refine y8 ?_ ?_); ((with_reducible first | apply decide_eq_true | apply z28); omega)) | ((with_reducible refine y7 ?_ ?_; apply z2e); omega) | (with_reducible refine yd (by assumption) ?_))
    rw[el];exact deep1 hc hl hk m f (i+1) c (by omega) (by omega) (by omega) (by omega)
  ·repeat (first | (with_reducible first | refine y5 (fun _ _ => ?_) | refine Wp.lett ?_ | (apply Wp.obind; first | exact hc | exact z34 _)) | ((with_reducible refine y8 ?_ ?_; apply decide_eq_true); omega) | ((with_reducible refine y7 ?_ ?_; apply decide_eq_false); omega) | (with_reducible refine yd (by assumption) ?_))
   exact hk c
theorem deep_r{b:Nat}(kr:RowH h b TPatN [.int .i64 k,z12 u])(hl:u.length<1000000)(hn:1000000<n):∃z h',z14 n (d+1) 16 [.sl b 0 1 2] h=some (.ret (.bool z),h')∧Tch [] h h':=by
 suffices hK:Wp (z14 n (d+1) 16 [.sl b 0 1 2] h) fun r h'=>(∃z,r=.ret (.bool z))∧Tch [] h h' by
  obtain⟨_,h',e,⟨z,rfl⟩,k⟩:=hK;exact⟨z,h',e,k⟩
 rw[z3a3];unfold z166;obtain⟨n,rfl⟩:∃n',n=n'+2:=⟨n - 2,by omega⟩;have e1:z249 (.sl b 0 1 2)=some 1:=rfl;have e2:ze8 2 (.sl b 0 1 2) 0=some (.ptr b 0):=rfl;have e3:z15 h 2 (.ptr b 0)=some [.int .i64 k,z12 u]:=RowH.ldAll kr rfl
 repeat(with_reducible first|refine y12 (fun _ _=>?_)|(apply Wp.obind;exact e1))
 rename_i k6 ek6;rw[z176];unfold zf3;have Mx:=Mem.nil [] h
 repeat(first|((with_reducible apply y11 Mx);rfl;rfl;(rfl);clear Mx;intro _ Mx)|((with_reducible apply yc Mx);clear Mx;intro _ Mx)|(with_reducible first|refine y5 (fun _ _=>?_)|refine Wp.lett ?_|(apply Wp.obind;first|exact e2|exact e3))|((with_reducible refine y8 ?_ ?_;apply decide_eq_true);omega)|rw[z8])
 rename_i k27 ek27;have hc:=y10 Mx.at0.1 (show ([.int .i64 k,z12 u]:List AV)[1]? =some (z12 u) from rfl);refine deep1 hc hl (fun c=>?_) u.length (n+2) 0 0 (by omega) (Nat.zero_add _) (Int.le_refl 0) (Int.le_refl 0);rw[ek27]
 by_cases h6:c>6
 ·repeat (first | (with_reducible refine Wp.lett ?_) | ((with_reducible refine y8 ?_ ?_; apply decide_eq_true); omega))
  exact Wp.ret ⟨⟨_,rfl⟩,Mx.tch⟩
 ·repeat (first | ((with_reducible refine yf ?_ ?_ ?_); omega; omega) | (with_reducible refine Wp.lett ?_) | ((with_reducible refine y7 ?_ ?_; apply decide_eq_false); omega))
  rw[z176];unfold zf3
  repeat(first|(with_reducible refine Wp.lett ?_)|((with_reducible refine y7 ?_ ?_;apply decide_eq_false);omega)|(with_reducible refine y21 (by assumption) ?_))
  exact Wp.ret ⟨⟨_,rfl⟩,Mx.tch⟩
theorem run_take{N:Nt}{i:Nat}(hi:i<s.length):z1ac N (false,0) (s.take (i+1))=stepN N (z1ac N (false,0) (s.take i)) (s[i]).toNat:=by
 rw[←List.take_append_getElem hi];unfold z1ac;rw[List.foldl_append];rfl
theorem z48e{i:Nat}(hi:i≤s.length):z317 s 0 (i:Int)=some (s.take i):=by
 have:=z490 (l:=s) (Nat.zero_le i) hi;rw[List.drop_zero,Nat.sub_zero] at this;exact this
theorem z2ba{t:Nd}{c:List AV}{T:List z9e}{h20 h3:AHeap}{rb nb:Nat}{k66:AHeap→R}(hT:HasTz h3)(hg:0≠rb)(hn:18446744073709551620<n)(k1:z2fe t)(kt:NodeT t c T)(rT:RowsAt h3 T)(hrT:∀y∈T,y.1≠rb)(kn:RowH h3 nb TNet (netC (z7f t)))(hnb:nb<h3.next)(hne:rb≠nb)(kx:RowH h3 h20.next z17 c)(hxb:h20.next<h3.next)(hxr:h20.next≠rb)(hrb:rb<h3.next)(hD:2*t.sz+10≤d)(hz:t.sz<1000000)(hct:z337 t≤64)(hl:s.length≤60)(hx:z7a TBo h3.ex=false)(hk:∀H,Wp (k66 H) Q):
  ∀(m f i:Nat) (st:Bool×Nat) (H:AHeap),m<f→i+m=s.length+1→st.2<18446744073709551616→(i≤s.length→st=z1ac (z7f t) (false,0) (s.take i))→RowH H rb TRun (runC nb st)→Tch [rb] h3 H→Wp (zbc (z180 n (d+3)) s h20 (.ptr rb 0) k66 f (i:Int) H) Q
 |_,0,_,_,_,hf,_,_,_,_,_=>by omega
 |0,f+1,i,st,H,hf,hm,hs,hst,kr,t3=>by
  have ll:=z1b s;rw[z11d];unfold za7
  repeat(first|(with_reducible refine Wp.lett ?_)|((with_reducible refine y7 ?_ ?_;apply decide_eq_false);omega))
  exact hk H
 |m+1,f+1,i,st,H,hf,hm,hs,hst,kr,t3=>by
  have ll:=z1b s;have hi:i≤s.length:=by omega
  have hst:=hst hi;have hN:=z2a1 t;have el:(i:Int)+1=((i+1:Nat):Int):=by omega
  have kn1:=kn.tch t3 hnb (by simpa using hne.symm);have rT1:RowsAt H T:=fun y hy=>⟨(rT y hy).1.tch t3 (rT y hy).2 (by simpa using hrT y hy),Nat.lt_of_lt_of_le (rT y hy).2 t3.1⟩;have kx1:=kx.tch t3 hxb (by simpa using hxr);have y1:z15 H 6 (.ptr h20.next 0)=some c:=RowH.ldAll kx1 kt.len;have sl:=z48e (s:=s) hi;have hxH:z7a TBo H.ex=false:=by rw[t3.2.1];exact hx
  have hu:(s.take i).length <900:=by rw[List.length_take];omega
  have e1:=(wN_done n (d+3) _ H).trans (done_w (n:=n) (d:=d+1) hN hs kr kn1);have e2:=(wN_dead n (d+3) _ H).trans (z470 (n:=n) (d:=d+1) kr kn1);have f1:=fits_w (n:=n) (D:=d+2) (s:=s.take i) k1 kt rT1 (by omega) (by omega) hz hu hxH;rw[z4ae hct,show z19f (z7f t) (s.take i)=z277 (z7f t) st by rw[hst];rfl] at f1;have f2:=rdead_w (n:=n) (D:=d+2) (s:=s.take i) k1 kt rT1 (by omega) (by omega) hz hu hxH;rw[←dead_lang (z43d hct), ←hst] at f2;have e3:=(wN_fits n (d+3) _ H).trans f1;have e4:=(wN_rdead n (d+3) _ H).trans f2;rw[z11d];unfold za7
  repeat(first|(with_reducible first|refine y5 (fun _ _=>?_)|refine Wp.lett ?_|(apply Wp.obind;first|exact y1|exact sl|exact z6 _))|((with_reducible refine y8 ?_ ?_;apply decide_eq_true);omega)|(with_reducible apply Wp.callN;first|exact e1|exact e3)|((with_reducible refine Wp.chk ?_ ?_);exact z1a4 (z183 (by kernel_rfl) (by kernel_rfl) y1) rfl)|rw[z8])
  refine y7 (by rw[beq_self_eq_true];rfl) ?_
  repeat(first|(with_reducible first|refine Wp.lett ?_|(apply Wp.obind;first|exact y1|exact sl|exact z6 _)|(apply Wp.callN;first|exact e2|exact e4))|((with_reducible refine Wp.chk ?_ ?_);exact z1a4 (z183 (by kernel_rfl) (by kernel_rfl) y1) rfl)|(with_reducible refine yd (by assumption) ?_))
  refine y7 (by rw[beq_self_eq_true];rfl) ?_
  by_cases hil:i<s.length
  ·have hxs := z30 hil
   obtain⟨h5,e5,k5,t5⟩:=step_r (n:=n) (d:=d) (hT.tch t3 (by simpa using hg)) hN hs (by omega) hne (z38a hil) kr kn1 (Nat.lt_of_lt_of_le hnb t3.1);have e5:=(wN_step n (d+3) _ H).trans e5
   repeat(first|(with_reducible refine y12 (fun _ _=>?_))|((with_reducible refine yf ?_ ?_ ?_);omega;omega)|(with_reducible first|refine Wp.lett ?_|(apply Wp.obind;exact hxs))|((with_reducible refine y8 ?_ ?_;apply decide_eq_true);omega)|(with_reducible first|(apply Wp.callN;exact e5)|refine y21 (by assumption) ?_))
   rw[el];exact z2ba hT hg hn k1 kt rT hrT kn hnb hne kx hxb hxr hrb hD hz hct hl hx hk m f (i+1) _ h5 (by omega) (by omega) (z194 hN _ _) (fun _=>by rw[run_take hil, ←hst]) k5 (t3.trans t5)
  ·repeat (first | (with_reducible refine y12 (fun _ _ => ?_)) | ((with_reducible refine yf ?_ ?_ ?_); omega; omega) | (with_reducible refine Wp.lett ?_) | ((with_reducible refine y7 ?_ ?_; apply decide_eq_false); omega) | (with_reducible refine y21 (by assumption) ?_))
   rw[el];exact z2ba hT hg hn k1 kt rT hrT kn hnb hne kx hxb hxr hrb hD hz hct hl hx hk m f (i+1) st H (by omega) (by omega) hs (fun h=>by omega) kr t3
end
set_option maxRecDepth 100000 in
theorem z3c5(h:AHeap)(hX:h.ex=[])(hT:HasTz h)(xs:List AV)(hP:z438 Tryd.prog h.next h 12 [23,9] xs):∃h',Says Tryd.prog 4 xs h (.ret (.bool true)) h':=by
 obtain⟨_,_,rfl,hp0,hP⟩:=z3e9 hP;obtain⟨_,_,rfl,hp1,hP⟩:=z3e9 hP
 obtain rfl:=args0 hP
 obtain⟨k,u,rfl,_⟩:=pat_of hp0;obtain⟨s,rfl,hsc⟩:=hp1.str Tryd.underlying9;obtain⟨n,hn⟩:∃n,18446744073709551620<n:=⟨_,Nat.lt_succ_self _⟩;obtain⟨D,hD⟩:∃D,2000≤D:=⟨2000,Nat.le_refl _⟩
 suffices hK:Wp (z15a (z180 n (D+4)) n [.int .i64 k,z12 u] s h) fun r _=>r=.ret (.bool true) by
  obtain⟨_,h',e,rfl⟩:=hK;exact⟨h',z299 (worldN_ok n (D+4)) e⟩
 have hxN:∀{h1:AHeap} {rs:List z9e},Abs.Mem [] h h1 rs→z7a z17 h1.ex=false:=fun M=>by rw[M.ex,hX];rfl
 have hTz:∀{h1:AHeap} {rs:List z9e},Abs.Mem [] h h1 rs→HasTz h1:=fun M=>hT.tch M.tch (by simp);unfold z15a;have Mx:=Mem.nil [] h;have lc:=z1b s
 repeat(((with_reducible apply y16 Mx);(rfl);clear Mx;intro _ Mx))
 refine Wp.callN ((wN_works _ _ _ _).trans (works_w (d:=D+2) hn (by omega) (hTz Mx) (hxN Mx))) ?_
 repeat(first|(with_reducible apply Wp.obind;exact z6 _)|((with_reducible apply y14 Mx);rfl)|(with_reducible first|refine Wp.lett ?_|(refine y7 ?_ ?_;exact Bool.not_true)))
 rcases both10 k u (n:=n) (D:=D) hn (by omega) with⟨e,q,he,hb⟩|⟨t,hlu,tp,ht⟩
 ·have he2 : (e != 0) = true := bne_iff_ne.2 he
  refine Wp.callN ((wN_of _ _ _ _).trans (hb _ (hxN Mx)).1) ?_
  repeat(first|(with_reducible apply Wp.obind;exact z5 _ _)|((with_reducible apply y14 Mx);rfl)|(with_reducible apply Wp.obind;first|exact za0 _ _|exact z9f _ _ _))
  refine Wp.callN ((wN_tree _ _ _ _).trans (hb _ (hxN Mx)).2) ?_
  repeat(first|(with_reducible apply Wp.obind;exact z5 _ _)|((with_reducible apply y28 Mx);rfl)|((with_reducible apply y11 Mx);rfl;rfl;(rfl);clear Mx;intro _ Mx)|((with_reducible apply y1c Mx);rfl;rfl;(rfl);clear Mx;intro _ Mx)|((with_reducible apply yc Mx);clear Mx;intro _ Mx)|(with_reducible first|refine y5 (fun _ _=>?_)|refine Wp.lett ?_|(apply Wp.obind;first|exact z13 _|exact za0 _ _|exact z9f _ _ _)|(refine y8 ?_ ?_;first|rfl|assumption)|refine yd (by assumption) ?_)|rw[z8])
  refine Wp.ret ?_;rw[he2];rfl
 ·obtain ⟨⟨nb, h1, e1, N1⟩, _⟩ := ht _ (hxN Mx)
  refine Wp.callN ((wN_of _ _ _ _).trans e1) ?_;have M1:=Mem.frame (xs:=[]) Mx N1;simp only[List.nil_append,List.cons_append] at M1;clear Mx N1 e1;have Mx:=M1;clear M1
  repeat(first|(with_reducible apply Wp.obind;exact z5 _ _)|((with_reducible apply y1a Mx);rfl)|(with_reducible apply Wp.obind;first|exact za0 _ _|exact z9f _ _ _))
  obtain⟨c,T,H1,e2,kt,N2⟩:=(ht _ (hxN Mx)).2;refine Wp.callN ((wN_tree _ _ _ _).trans e2) ?_;have M2:=y31 (xs:=[]) (ys:=[]) Mx N2;simp only[List.nil_append,List.cons_append] at M2;clear Mx N2 e2;have Mx:=M2;clear M2
  repeat(first|((with_reducible apply yc Mx);clear Mx;intro _ Mx)|(with_reducible apply Wp.obind;first|exact z13 _|exact za0 _ _|exact z9f _ _ _)|rw[z8])
  refine y1c Mx kt.len rfl kt.one fun h3 M3=>?_;clear Mx;have Mx:=M3;clear M3
  by_cases hbig:60<s.length
  ·repeat (first | (with_reducible apply Wp.obind; exact z5 _ _) | ((with_reducible apply y28 Mx); rfl) | ((with_reducible apply y11 Mx); rfl; rfl; (rfl); clear Mx; intro _ Mx) | (with_reducible first | refine y5 (fun _ _ => ?_) | refine Wp.lett ?_) | ((with_reducible refine y8 ?_ ?_); first | (with_reducible rfl) | ((with_reducible first | apply decide_eq_true | apply zab); omega)) | ((with_reducible refine y7 ?_ ?_; apply zc9); omega) | (with_reducible refine yd (by assumption) ?_))
   exact Wp.ret rfl
  repeat(first|(with_reducible apply Wp.obind;exact z5 _ _)|((with_reducible apply y28 Mx);rfl)|((with_reducible apply y11 Mx);rfl;rfl;(rfl);clear Mx;intro _ Mx)|((with_reducible apply y3e Mx);rfl)|(with_reducible first|refine y5 (fun _ _=>?_)|refine Wp.lett ?_)|((with_reducible refine y7 ?_ ?_);((with_reducible first|apply decide_eq_false|apply zc9);omega))|(with_reducible refine yd (by assumption) ?_))
  refine y2d Mx (bldSlPat _ k u) rfl (by rw[hX];rfl) fun h4 M4=>?_;clear Mx;obtain⟨z,h5,e5,t5⟩:=deep_r (n:=n) (d:=D+3) M4.at0.1 (by omega) (by omega);refine Wp.callN ((wN_deep _ _ _ _).trans e5) ?_;have Mx:=M4.keep t5;clear M4
  repeat(with_reducible first|(apply Wp.obind;exact z6 _)|refine yd (by assumption) ?_)
  cases z with
  |true=>
   repeat(first|(with_reducible apply Wp.obind;exact z5 _ _)|((with_reducible apply y36 Mx);rfl)|(with_reducible first|refine Wp.lett ?_|(refine y8 ?_ ?_;rfl)))
   exact Wp.ret rfl
  |false=>
   repeat(((with_reducible refine y7 ?_ ?_);(with_reducible rfl)))
   obtain⟨h6,e6,M6⟩:=begin_m (n:=n) (d:=D+3) (nb:=nb) Mx;refine Wp.callN ((wN_begin _ _ _ _).trans e6) ?_
   repeat(with_reducible first|refine y12 (fun _ _=>?_)|(apply Wp.obind;exact z6 _)|(refine y7 ?_ ?_;rfl)|(apply Wp.outK;exact eqRun _ _ _))
   rename_i k66 ek66;have hz:=z1a8 tp;have rT:=z2bc (T:=T) M6 (fun y hy=>by simp[hy]);have rT5:=z2bc (T:=T) Mx (fun y hy=>by simp[hy]);have g5:=(hTz Mx).2;have n3:=Mx.at2.2.1;have n4:=Mx.at3.2.1
   refine z2ba (n:=n) (d:=D+1) (h3:=h6) (hTz M6) (by omega) hn (z25e tp) kt rT (fun y hy=>by
    have:=(rT5 y hy).2;omega) M6.at4.1 M6.at4.2.1 (by omega) M6.at3.1 M6.at3.2.1 (by omega) M6.at0.2.1 (by omega) (by omega) (Nat.le_trans (treeP_cnt tp) hlu) (by omega) (by rw[M6.ex,hX];rfl) (fun H=>by
    rw[ek66];exact Wp.ret rfl) (s.length+1) n 0 (false,0) h6 (by omega) (Nat.zero_add _) (by decide) (fun _=>by
    rw[List.take_zero];rfl) M6.at0.1 (Tch.refl _ _)
end Go.Proofs.YtakhljnkmbpmpaaDoor
