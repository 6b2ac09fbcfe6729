package stand

import "orlop/api"

// reason is why a hull does not stand. The reasons are counted as those of api.
type reason int

const (
	stands reason = iota
	floats
	turnsAft
	turnsFore
)

// balance is Down, Aft and Fore. Each of them is the sum that tells a reason, in their order from floats on.
type balance [3]int

// balanceOf returns a balance of api as an array.
func balanceOf(b api.StBalance) balance { return balance{b.Down, b.Aft, b.Fore} }

// told returns the balance as api has it.
func (b balance) told() api.StBalance {
	return api.StBalance{Down: b[0], Aft: b[1], Fore: b[2]}
}

// why returns the first reason for which a hull of this balance does not stand; of the least balance that for which it does not surely stand.
func (b balance) why() reason {
	enough := balance{1, 0, 0}
	for i, n := range b {
		if n < enough[i] {
			return floats + reason(i)
		}
	}
	return stands
}

// pressed is a part of a hull that presses on the ground with some kilograms.
type pressed struct {
	api.StPart
	wreck
	kilos int
}

func (p pressed) down() int { return p.kilos }

func (p pressed) overAft() int { return p.kilos * (p.At - p.Aft) }

func (p pressed) overFore() int { return p.kilos * (p.Fore - p.At) }

// sum is a sum of a balance: what a part adds to it, and the side of all truths on which it is least, of which a function tells the numbers of a part.
type sum struct {
	adds func(p pressed) int
	side func(x api.StPart) (weight, lift int)
}

// sums returns the sums of a balance. A part adds the less the less it presses, unless it is beyond that end of the ground about which the sum tells how the hull turns.
func (w wreck) sums() [3]sum {
	return [3]sum{
		{pressed.down, lightest},
		{pressed.overAft, func(x api.StPart) (weight, lift int) {
			if x.At < w.Aft {
				return heaviest(x)
			}
			return lightest(x)
		}},
		{pressed.overFore, func(x api.StPart) (weight, lift int) {
			if x.At > w.Fore {
				return heaviest(x)
			}
			return lightest(x)
		}},
	}
}

// lightest returns the numbers of a part with which it presses least, at any height of water.
func lightest(x api.StPart) (weight, lift int) { return x.Weight.Lo, x.Lift.Hi }

// heaviest returns the numbers of a part with which it presses most, at any height of water.
func heaviest(x api.StPart) (weight, lift int) { return x.Weight.Hi, x.Lift.Lo }
