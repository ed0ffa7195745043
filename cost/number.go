package cost

// top: the greatest number that is reckoned with.
const top = 1 << 60

func plus(a, b int) int { return min(a+b, top) }

func times(a, b int) int {
	if b > 0 && a > top/b {
		return top
	}
	return a * b
}

// per: a / b, rounded up; b is 1 or more.
func per(a, b int) int { return (a + b - 1) / b }

// within the bounds of what is reckoned with.
func within(n int) int { return min(max(n, 0), top) }
